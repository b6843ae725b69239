package beam

import (
	"math/big"
	"testing"
)

// wantFinal is the chapter's reckoning, with numbers that have no bounds.
func wantFinal(b Beam, penalty int) int64 {
	if penalty < 0 {
		penalty = 0
	}
	if penalty > 64 {
		penalty = 64
	}
	count := len(b.Tokens)
	if count > 1000 {
		count = 1000
	}
	d := big.NewInt(4096)
	d.Mul(d, big.NewInt(int64(penalty)))
	d.Mul(d, big.NewInt(int64(count)))
	d.Add(d, big.NewInt(65536))
	x := new(big.Int).Mul(clamped(big.NewInt(b.Score)), big.NewInt(65536))
	return clamped(x.Quo(x, clamped(d))).Int64()
}

// wantBest is the first place whose Final no other one is above.
func wantBest(l []Beam, penalty int) int {
	for i, b := range l {
		above := 0
		for _, other := range l {
			if wantFinal(other, penalty) > wantFinal(b, penalty) {
				above++
			}
		}
		if above == 0 {
			return i
		}
	}
	return -1
}

func checkFinal(t *testing.T, b Beam, penalty int, want int64) {
	t.Helper()
	if n := Final(b, penalty); n != want {
		t.Errorf("Final of %d tokens, score %d, done %t, penalty %d: %d, not %d", len(b.Tokens), b.Score, b.Done, penalty, n, want)
	}
}

func checkBest(t *testing.T, l []Beam, penalty, want int) {
	t.Helper()
	if i := Best(l, penalty); i != want {
		t.Errorf("Best(%v, %d): %d, not %d", l, penalty, i, want)
	}
}

// penalties is penalties of all kinds, also those that are brought into 0 to 64.
func penalties() []int {
	return []int{least, -1 << 32, -65536, -2, -1, 0, 1, 2, 16, 63, 64, 65, 66, 65536, 1 << 32, most}
}

// 19.2: Final, where the answers are known by hand.
func TestFinal(t *testing.T) {
	for _, c := range []struct {
		tokens  int
		score   int64
		penalty int
		want    int64
	}{
		// With nothing to divide by the score is as it was, clamped.
		{0, -65536, 16, -65536}, {0, 7, 64, 7}, {5, -7, 0, -7}, {5, -7, -1, -7}, {5, -7, least, -7}, {1000, high, 0, high}, {0, most, 9, high}, {0, high + 1, 9, high}, {0, least, 9, low}, {0, low - 1, 9, low},
		// 16 sixteenths of a token are one.
		{1, -65536, 16, -32768}, {1, 65536, 16, 32768}, {3, -65536, 16, -16384}, {2, -65536, 8, -32768}, {1, -65536, 1, -61680}, {1, 65536, 1, 61680},
		// 64 are four, and more are not there.
		{1, -50000, 64, -10000}, {1, -50000, 65, -10000}, {1, -50000, most, -10000}, {1, -50000, 63, -10126}, {2, 90000, 64, 10000}, {2, 90000, 1 << 40, 10000},
		// Of 1000 tokens and more 1000 count.
		{999, -3997000, 64, -1000}, {1000, -4001000, 64, -1000}, {1001, -4001000, 64, -1000}, {1001, -4005000, 64, -1000}, {1001, -4005001, 64, -1001}, {1001, -4005004, 64, -1001}, {1001, -8010001, 64, -2001}, {1001, -8010002, 64, -2002}, {5000, -4001000, 64, -1000}, {999, -1000000, 16, -1000}, {1000, -1001000, 16, -1000}, {1001, -1001000, 16, -1000}, {70000, 1001000, 16, 1000},
		// What is left of a division is cut off towards 0.
		{1, -1, 16, 0}, {1, 1, 16, 0}, {1, -3, 16, -1}, {1, 3, 16, 1}, {2, -5, 16, -1}, {2, 5, 16, 1}, {1, -4, 64, 0}, {1, -5, 64, -1},
		// The edges, and what is beyond them.
		{1, high, 16, high / 2}, {1, low, 16, low / 2}, {1, most, 16, high / 2}, {1, least, 16, low / 2}, {1, high + 1, 16, high / 2}, {1, low - 1, 16, low / 2}, {1000, high, 64, 536736}, {1000, least, 64, -536736}, {1001, most, most, 536736},
	} {
		checkFinal(t, Beam{Tokens: counted(c.tokens, 0), Score: c.score}, c.penalty, c.want)
		checkFinal(t, Beam{Tokens: counted(c.tokens, 0), Score: c.score, Done: true}, c.penalty, c.want)
	}
}

// 19.2: Final of all kinds of scores, tokens and penalties, held against the chapter's reckoning.
func TestFinalSteps(t *testing.T) {
	scores := append(append(levels(), mixed(40, 5)...), small(6, 5)...)
	for _, tokens := range []int{0, 1, 2, 3, 24, 500, 998, 999, 1000, 1001, 1002, 2000, 65537} {
		b := Beam{Tokens: counted(tokens, -4)}
		for _, penalty := range penalties() {
			for _, b.Score = range scores {
				checkFinal(t, b, penalty, wantFinal(b, penalty))
			}
		}
		for penalty := range 66 {
			for _, b.Score = range []int64{low, -1 << 20, 12345, high} {
				checkFinal(t, b, penalty, wantFinal(b, penalty))
			}
		}
	}
}

// 19.2: of no beams none is the best.
func TestBestNothing(t *testing.T) {
	for _, penalty := range penalties() {
		checkBest(t, nil, penalty, -1)
		checkBest(t, []Beam{}, penalty, -1)
		checkBest(t, []Beam{{Score: 5}}[:0], penalty, -1)
	}
}

// 19.2: one beam is the best, whatever its score.
func TestBestOne(t *testing.T) {
	for _, penalty := range penalties() {
		for _, score := range levels() {
			checkBest(t, []Beam{{Score: score}}, penalty, 0)
			checkBest(t, []Beam{{Tokens: []int{1, 2}, Score: score, Done: true}}, penalty, 0)
		}
	}
}

// 19.2: Best, where the answers are known by hand.
func TestBest(t *testing.T) {
	short, long := []int{1}, []int{1, 2, 3}
	for _, c := range []struct {
		l       []Beam
		penalty int
		want    int
	}{
		// The greatest comes once, wherever it stands.
		{[]Beam{{Score: -1}, {Score: -2}, {Score: -3}}, 0, 0}, {[]Beam{{Score: -2}, {Score: -1}, {Score: -3}}, 0, 1}, {[]Beam{{Score: -3}, {Score: -2}, {Score: -1}}, 0, 2},
		{[]Beam{{Score: 0}, {Score: 5}, {Score: 2}}, 0, 1}, {[]Beam{{Score: low}, {Score: low + 1}}, 0, 1}, {[]Beam{{Score: high - 1}, {Score: high}}, 0, 1},
		// It comes more than once: the first of these.
		{[]Beam{{Score: -5}, {Score: -5}}, 0, 0}, {[]Beam{{Score: -6}, {Score: -5}, {Score: -5}}, 0, 1}, {[]Beam{{Score: -5}, {Score: -6}, {Score: -5}}, 0, 0}, {[]Beam{{}, {}, {}}, 16, 0},
		{[]Beam{{Score: least}, {Score: low}}, 0, 0}, {[]Beam{{Score: high}, {Score: most}}, 0, 0}, {[]Beam{{Score: low - 1}, {Score: least}, {Score: low}}, 7, 0},
		// A long one gains by a penalty, if it is below 0, and loses, if above.
		{[]Beam{{Tokens: short, Score: -65536}, {Tokens: long, Score: -65536}}, 0, 0}, {[]Beam{{Tokens: short, Score: -65536}, {Tokens: long, Score: -65536}}, 16, 1}, {[]Beam{{Tokens: short, Score: -65536}, {Tokens: long, Score: -65536}}, -16, 0},
		{[]Beam{{Tokens: short, Score: -60000}, {Tokens: long, Score: -130000}}, 16, 0}, {[]Beam{{Tokens: short, Score: -60000}, {Tokens: long, Score: -110000}}, 16, 1}, {[]Beam{{Tokens: long, Score: 65536}, {Tokens: short, Score: 65536}}, 16, 1},
		{[]Beam{{Tokens: short, Score: -60000}, {Tokens: long, Score: -120000}}, 16, 0}, {[]Beam{{Tokens: long, Score: -120000}, {Tokens: short, Score: -60000}}, 16, 0},
		{[]Beam{{Tokens: short, Score: -50000}, {Tokens: long, Score: -120000}}, 64, 1}, {[]Beam{{Tokens: short, Score: -50000}, {Tokens: long, Score: -120000}}, most, 1}, {[]Beam{{Tokens: short, Score: -50000}, {Tokens: long, Score: -130001}}, most, 0},
		// What is cut off makes the same of what differs.
		{[]Beam{{Tokens: short, Score: -1}, {Tokens: short, Score: 0}}, 16, 0}, {[]Beam{{Tokens: short, Score: -1}, {Tokens: short, Score: 0}}, 0, 1},
		// Whether one is done does not matter.
		{[]Beam{{Score: -2, Done: true}, {Score: -1}}, 0, 1}, {[]Beam{{Score: -2}, {Score: -1, Done: true}}, 0, 1}, {[]Beam{{Score: -1}, {Score: -1, Done: true}}, 0, 0},
	} {
		checkBest(t, c.l, c.penalty, c.want)
	}
}

// 19.2: Best of all kinds of beams, held against the chapter's reckoning.
func TestBestSteps(t *testing.T) {
	for seed := range uint64(400) {
		l, _ := several(seed)
		for _, penalty := range penalties() {
			checkBest(t, l, penalty, wantBest(l, penalty))
		}
	}
}
