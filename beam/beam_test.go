package beam

import (
	"math"
	"math/big"
	"slices"
	"testing"

	"aviary/api"
)

const (
	least = math.MinInt64
	most  = math.MaxInt64
	high  = int64(api.MaxNum)
	low   = int64(api.MinNum)
)

// mixed is numbers of all sizes, the same ones each time for a seed.
func mixed(count int, seed uint64) []int64 {
	list := make([]int64, count)
	state := 88172645463325252 ^ seed<<7
	for i := range list {
		state ^= state << 13
		state ^= state >> 7
		state ^= state << 17
		list[i] = int64(state) >> (state % 61)
	}
	return list
}

// small is numbers of a seed from -2 to 2, of which many are the same.
func small(count int, seed uint64) []int64 {
	list := mixed(count, seed)
	for i := range list {
		list[i] %= 3
	}
	return list
}

// counted is so many tokens, each of which differs from its neighbours.
func counted(count, start int) []int {
	list := make([]int, count)
	for i := range list {
		list[i] = start + i
	}
	return list
}

// clamped is a number without bounds, brought into 32 bits.
func clamped(x *big.Int) *big.Int {
	if x.Cmp(big.NewInt(low)) < 0 {
		return big.NewInt(low)
	}
	if x.Cmp(big.NewInt(high)) > 0 {
		return big.NewInt(high)
	}
	return x
}

// wantLoss is a token's score less the greatest of its row, with numbers that have no bounds.
func wantLoss(row []int64, token int) *big.Int {
	greatest := big.NewInt(low)
	for _, score := range row {
		if c := clamped(big.NewInt(score)); c.Cmp(greatest) > 0 {
			greatest = c
		}
	}
	return clamped(new(big.Int).Sub(clamped(big.NewInt(row[token])), greatest))
}

// wantError is the first thing that is wrong with what is handed to Grow.
func wantError(l []Beam, scores [][]int64, width int) api.Errno {
	if width < 1 || width > 4 {
		return api.ErrRange
	}
	rows := 0
	for _, b := range l {
		if !b.Done {
			rows++
		}
	}
	if len(l) == 0 || rows != len(scores) {
		return api.ErrShape
	}
	for _, row := range scores {
		if len(row) == 0 {
			return api.ErrShape
		}
	}
	return api.OK
}

// wantCandidates is the chapter's candidates in its order, and of each the place of its beam.
func wantCandidates(l []Beam, scores [][]int64, length, stop int) ([]Beam, []int) {
	var beams []Beam
	var places []int
	next := 0
	for place, b := range l {
		if b.Done {
			beams, places = append(beams, b), append(places, place)
			continue
		}
		row := scores[next]
		next++
		for token := range row {
			tokens := append(slices.Clone(b.Tokens), token)
			score := clamped(new(big.Int).Add(clamped(big.NewInt(b.Score)), wantLoss(row, token)))
			done := token == stop || len(tokens) >= length
			beams, places = append(beams, Beam{tokens, score.Int64(), done}), append(places, place)
		}
	}
	return beams, places
}

// wantGrow is the chapter's steps one behind the other: the greatest candidate, the first of these, is taken, and again.
func wantGrow(l []Beam, scores [][]int64, width, length, stop int) ([]Beam, []int, api.Errno) {
	if e := wantError(l, scores, width); e != api.OK {
		return nil, nil, e
	}
	left, behind := wantCandidates(l, scores, length, stop)
	var beams []Beam
	var places []int
	for len(beams) < width && len(left) > 0 {
		best := 0
		for i, b := range left {
			if b.Score > left[best].Score {
				best = i
			}
		}
		beams, places = append(beams, left[best]), append(places, behind[best])
		left, behind = slices.Delete(left, best, best+1), slices.Delete(behind, best, best+1)
	}
	return beams, places, api.OK
}

func same(a, b Beam) bool {
	return slices.Equal(a.Tokens, b.Tokens) && a.Score == b.Score && a.Done == b.Done
}

func checkAnswer(t *testing.T, l []Beam, scores [][]int64, width, length, stop int, want []Beam, wantPlaces []int, wantError api.Errno) {
	t.Helper()
	beams, places, e := Grow(l, scores, width, length, stop)
	if !slices.EqualFunc(beams, want, same) || !slices.Equal(places, wantPlaces) || e != wantError {
		t.Errorf("Grow(%v, %v, %d, %d, %d): %v, %v, error %d, not %v, %v, error %d", l, scores, width, length, stop, beams, places, e, want, wantPlaces, wantError)
	}
}

// checkGrow holds an answer against the chapter's steps.
func checkGrow(t *testing.T, l []Beam, scores [][]int64, width, length, stop int) {
	t.Helper()
	want, places, e := wantGrow(l, scores, width, length, stop)
	checkAnswer(t, l, scores, width, length, stop, want, places, e)
}

func checkRefused(t *testing.T, l []Beam, scores [][]int64, width int, want api.Errno) {
	t.Helper()
	for _, length := range []int{least, 0, 1, 3, most} {
		for _, stop := range []int{least, -1, 0, 1, most} {
			checkAnswer(t, l, scores, width, length, stop, nil, nil, want)
		}
	}
}

// wrongWidths is widths that are none.
func wrongWidths() []int {
	return []int{least, -1 << 32, -65536, -4, -1, 0, 5, 6, 65536, 1 << 32, 1<<32 + 1, most}
}

// patterned is as many beams as asked for, of which those are done that a number's bits say, and a row for each that is not.
func patterned(count int, bits uint64, seed uint64) ([]Beam, [][]int64) {
	numbers := small(count, seed)
	var l []Beam
	var scores [][]int64
	for i := range count {
		b := Beam{Tokens: counted(i, 10*i), Score: -numbers[i] * numbers[i], Done: bits>>i&1 == 1}
		l = append(l, b)
		if !b.Done {
			scores = append(scores, small(1+(i+int(seed))%4, seed+uint64(i)))
		}
	}
	return l, scores
}

// 19.1: the chapter's example.
func TestGrowExample(t *testing.T) {
	checkAnswer(t, []Beam{{}}, [][]int64{{5, 9, 9}}, 2, 3, -1, []Beam{{Tokens: []int{1}}, {Tokens: []int{2}}}, []int{0, 0}, api.OK)
	checkAnswer(t, []Beam{{Tokens: []int{}}}, [][]int64{{5, 9, 9}}, 3, 3, -1, []Beam{{Tokens: []int{1}}, {Tokens: []int{2}}, {Tokens: []int{0}, Score: -4}}, []int{0, 0, 0}, api.OK)
}

// 19.1: a width that is none is the first thing that goes wrong, whatever else is.
func TestGrowWrongWidth(t *testing.T) {
	open, done := []Beam{{}, {Tokens: []int{3}}}, []Beam{{Done: true}}
	rows := [][]int64{{1, 2}, {3}}
	for _, width := range wrongWidths() {
		checkRefused(t, open, rows, width, api.ErrRange)
		checkRefused(t, done, nil, width, api.ErrRange)
		checkRefused(t, nil, nil, width, api.ErrRange)
		checkRefused(t, nil, rows, width, api.ErrRange)
		checkRefused(t, open, nil, width, api.ErrRange)
		checkRefused(t, open, rows[:1], width, api.ErrRange)
		checkRefused(t, open, [][]int64{{1}, {}}, width, api.ErrRange)
	}
}

// 19.1: of every width that is one so many candidates are taken, all if there are fewer.
func TestGrowWidth(t *testing.T) {
	row := []int64{7, 9, 8, 6, 5, 9}
	whole := []Beam{{Tokens: []int{1}}, {Tokens: []int{5}}, {Tokens: []int{2}, Score: -1}, {Tokens: []int{0}, Score: -2}}
	for width := 1; width <= api.MaxBeams; width++ {
		checkAnswer(t, []Beam{{}}, [][]int64{row}, width, 3, -1, whole[:width], make([]int, width), api.OK)
		for count := 1; count <= len(row); count++ {
			beams, places, e := Grow([]Beam{{}}, [][]int64{row[:count]}, width, 3, -1)
			if len(beams) != min(width, count) || len(places) != len(beams) || e != api.OK {
				t.Errorf("width %d of %d candidates: %v, %v, error %d", width, count, beams, places, e)
			}
			checkGrow(t, []Beam{{}}, [][]int64{row[:count]}, width, 3, -1)
		}
	}
}

// 19.1: no beams are refused, with rows and without.
func TestGrowNothing(t *testing.T) {
	for width := 1; width <= api.MaxBeams; width++ {
		for _, scores := range [][][]int64{nil, {}, {nil}, {{}}, {{1}}, {{1, 2}, {3}}} {
			checkRefused(t, nil, scores, width, api.ErrShape)
			checkRefused(t, []Beam{}, scores, width, api.ErrShape)
			checkRefused(t, []Beam{{}, {}}[:0], scores, width, api.ErrShape)
		}
	}
}

// 19.1: there are as many rows as beams that are not done, not one fewer nor one more.
func TestGrowRows(t *testing.T) {
	for count := 1; count <= 5; count++ {
		for bits := range uint64(1) << count {
			l, scores := patterned(count, bits, bits)
			for width := 1; width <= api.MaxBeams; width++ {
				checkGrow(t, l, scores, width, 4, 1)
				checkRefused(t, l, append(slices.Clone(scores), []int64{1}), width, api.ErrShape)
				checkRefused(t, l, append(slices.Clone(scores), nil), width, api.ErrShape)
				if len(scores) > 0 {
					checkRefused(t, l, scores[1:], width, api.ErrShape)
					checkRefused(t, l, scores[:len(scores)-1], width, api.ErrShape)
				}
			}
		}
	}
	// Rows are not counted by the beams that are there, nor by those that are done.
	half := []Beam{{Done: true}, {}, {Done: true}}
	checkRefused(t, half, [][]int64{{1}, {2}}, 4, api.ErrShape)
	checkRefused(t, half, [][]int64{{1}, {2}, {3}}, 4, api.ErrShape)
}

// 19.1: a row that is empty is refused, wherever it stands.
func TestGrowEmptyRow(t *testing.T) {
	for count := 1; count <= 5; count++ {
		for bits := range uint64(1) << count {
			l, scores := patterned(count, bits, bits+1)
			for i := range scores {
				for _, row := range [][]int64{nil, {}, make([]int64, 2)[:0]} {
					wrong := slices.Clone(scores)
					wrong[i] = row
					for width := 1; width <= api.MaxBeams; width++ {
						checkRefused(t, l, wrong, width, api.ErrShape)
					}
				}
			}
		}
	}
}

// 19.1: answers that are reckoned by hand.
func TestGrowByHand(t *testing.T) {
	ended := Beam{Tokens: []int{4, 5}, Score: -3, Done: true}
	for _, c := range []struct {
		l      []Beam
		scores [][]int64
		width  int
		want   []Beam
		places []int
	}{
		// One that is done stands among the best with all it had, and takes no row.
		{[]Beam{ended}, nil, 1, []Beam{ended}, []int{0}},
		{[]Beam{ended, {Score: -1}}, [][]int64{{2, 0, 4}}, 3, []Beam{{[]int{2}, -1, false}, ended, {[]int{0}, -3, false}}, []int{1, 0, 1}},
		{[]Beam{{Score: -1}, ended}, [][]int64{{2, 0, 4}}, 3, []Beam{{[]int{2}, -1, false}, {[]int{0}, -3, false}, ended}, []int{0, 0, 1}},
		{[]Beam{{Score: -1}, ended}, [][]int64{{2, 0, 4}}, 2, []Beam{{[]int{2}, -1, false}, {[]int{0}, -3, false}}, []int{0, 0}},
		{[]Beam{ended, ended, ended}, nil, 2, []Beam{ended, ended}, []int{0, 1}},
		{[]Beam{{Score: -9, Done: true}, {Score: 4, Done: true}, {Score: 4, Tokens: []int{8}, Done: true}}, nil, 4, []Beam{{nil, 4, true}, {[]int{8}, 4, true}, {nil, -9, true}}, []int{1, 2, 0}},
		// Each that is not done takes the next row, and its loss is of that row alone.
		{[]Beam{{Tokens: []int{7}}, ended, {Tokens: []int{9}, Score: -1}}, [][]int64{{1000, 998}, {-5, -3}}, 4, []Beam{{[]int{7, 0}, 0, false}, {[]int{9, 1}, -1, false}, {[]int{7, 1}, -2, false}, ended}, []int{0, 2, 0, 1}},
		// Of the same scores the beams' order is the first, that of the tokens the second.
		{[]Beam{{Tokens: []int{7}}, {Tokens: []int{6}}}, [][]int64{{1, 1}, {2, 2}}, 4, []Beam{{[]int{7, 0}, 0, false}, {[]int{7, 1}, 0, false}, {[]int{6, 0}, 0, false}, {[]int{6, 1}, 0, false}}, []int{0, 0, 1, 1}},
		{[]Beam{{Tokens: []int{7}}, {Tokens: []int{6}}}, [][]int64{{1, 1, 1}, {2, 2}}, 4, []Beam{{[]int{7, 0}, 0, false}, {[]int{7, 1}, 0, false}, {[]int{7, 2}, 0, false}, {[]int{6, 0}, 0, false}}, []int{0, 0, 0, 1}},
		// A score above 0 is one, too; it is clamped ahead of the loss.
		{[]Beam{{Score: 9}}, [][]int64{{1, 5}}, 2, []Beam{{[]int{1}, 9, false}, {[]int{0}, 5, false}}, []int{0, 0}},
		{[]Beam{{Score: most}}, [][]int64{{1, 5}}, 2, []Beam{{[]int{1}, high, false}, {[]int{0}, high - 4, false}}, []int{0, 0}},
		{[]Beam{{Score: high + 1}}, [][]int64{{1, 5}}, 2, []Beam{{[]int{1}, high, false}, {[]int{0}, high - 4, false}}, []int{0, 0}},
		{[]Beam{{Score: least}}, [][]int64{{1, 5}}, 2, []Beam{{[]int{0}, low, false}, {[]int{1}, low, false}}, []int{0, 0}},
		{[]Beam{{Score: low - 1}}, [][]int64{{1, 5}}, 2, []Beam{{[]int{0}, low, false}, {[]int{1}, low, false}}, []int{0, 0}},
		// A loss brings a score down to the least number, not below it.
		{[]Beam{{Score: low + 3}}, [][]int64{{0, 4, 3, 1}}, 4, []Beam{{[]int{1}, low + 3, false}, {[]int{2}, low + 2, false}, {[]int{0}, low, false}, {[]int{3}, low, false}}, []int{0, 0, 0, 0}},
		// Scores are clamped ahead of the loss, and so is the loss.
		{[]Beam{{}}, [][]int64{{most, high, high - 1}}, 3, []Beam{{[]int{0}, 0, false}, {[]int{1}, 0, false}, {[]int{2}, -1, false}}, []int{0, 0, 0}},
		{[]Beam{{}}, [][]int64{{least, low, low + 1}}, 3, []Beam{{[]int{2}, 0, false}, {[]int{0}, -1, false}, {[]int{1}, -1, false}}, []int{0, 0, 0}},
		{[]Beam{{Score: 5}}, [][]int64{{least, most}}, 2, []Beam{{[]int{1}, 5, false}, {[]int{0}, low + 5, false}}, []int{0, 0}},
		{[]Beam{{Score: most}}, [][]int64{{least, most}}, 2, []Beam{{[]int{1}, high, false}, {[]int{0}, -1, false}}, []int{0, 0}},
		// One that is done is as it is, also beyond 32 bits.
		{[]Beam{{Score: most}, {Score: most - 1, Done: true}, {Score: most, Done: true}, {Score: least, Done: true}}, [][]int64{{3}}, 4, []Beam{{nil, most, true}, {nil, most - 1, true}, {[]int{0}, high, false}, {nil, least, true}}, []int{2, 1, 0, 3}},
	} {
		checkAnswer(t, c.l, c.scores, c.width, 9, -1, c.want, c.places, api.OK)
		checkGrow(t, c.l, c.scores, c.width, 9, -1)
	}
}

// 19.1: a beam is done behind the token stop.
func TestGrowStop(t *testing.T) {
	l, scores := []Beam{{Tokens: []int{1}}, {Tokens: []int{0}, Score: -1, Done: true}}, [][]int64{{4, 4, 4}}
	for _, stop := range []int{least, -65536, -2, -1, 0, 1, 2, 3, 4, 65536, 1 << 32, 1<<32 + 1, most} {
		want := []Beam{{[]int{1, 0}, 0, stop == 0}, {[]int{1, 1}, 0, stop == 1}, {[]int{1, 2}, 0, stop == 2}, l[1]}
		checkAnswer(t, l, scores, 4, 9, stop, want, []int{0, 0, 0, 1}, api.OK)
	}
}

// 19.1: a beam is done if it has as many tokens as are asked for, with the new one.
func TestGrowLength(t *testing.T) {
	for _, count := range []int{0, 1, 2, 3, 23, 24, 1000} {
		l, scores := []Beam{{Tokens: counted(count, 3)}}, [][]int64{{5, 5}}
		for _, length := range []int{least, -65536, -1, 0, 1, 2, count - 1, count, count + 1, count + 2, count + 3, 1 << 32, most} {
			done := count+1 >= length
			want := []Beam{{append(counted(count, 3), 0), 0, done}, {append(counted(count, 3), 1), 0, done}}
			checkAnswer(t, l, scores, 2, length, -1, want, []int{0, 0}, api.OK)
			want[1].Done = true
			checkAnswer(t, l, scores, 2, length, 1, want, []int{0, 0}, api.OK)
		}
	}
}

// 19.1: beams of different lengths are done each by its own; what was done stays so, whatever the length.
func TestGrowLengths(t *testing.T) {
	l := []Beam{{Tokens: counted(1, 0)}, {Tokens: counted(2, 0)}, {Tokens: counted(3, 0)}, {Done: true}}
	scores := [][]int64{{1}, {1}, {1}}
	for length := -1; length < 7; length++ {
		want := []Beam{{[]int{0, 0}, 0, length <= 2}, {[]int{0, 1, 0}, 0, length <= 3}, {[]int{0, 1, 2, 0}, 0, length <= 4}, {nil, 0, true}}
		checkAnswer(t, l, scores, 4, length, -1, want, []int{0, 1, 2, 3}, api.OK)
	}
}

// rows is rows of scores of many kinds.
func rows() [][]int64 {
	list := [][]int64{{0}, {5}, {least}, {most}, {low}, {high}, {5, 9, 9}, {9, 5, 9}, {0, 0, 0, 0, 0}, {1, 2, 3, 4, 5}, {5, 4, 3, 2, 1}, {1, 3, 2, 3, 1}, {low, high}, {high, low}, {least, most}, {most, least}, {most, high, high + 1, 0}, {least, low, low - 1}, {least, low, low - 1, low + 1}, {high, high - 1, most, 0, least, low + 1}, {-7, -7}, {65536, 0, -65536}, {1 << 40, 1<<40 + 1}, {-1 << 40, -1<<40 + 1, 1 << 33}}
	for _, count := range []int{2, 3, 16, 17} {
		for seed := range uint64(3) {
			list = append(list, mixed(count, seed), small(count, seed))
		}
	}
	return list
}

// levels is scores of beams of all sizes.
func levels() []int64 {
	return []int64{least, low - 1, low, low + 1, low + 5, -1 << 20, -1, 0, 1, 9, high - 1, high, high + 1, 1 << 40, most}
}

// 19.1: one beam with all kinds of scores, rows, widths, lengths and stops, held against the chapter's steps.
func TestGrowOne(t *testing.T) {
	for _, row := range rows() {
		for _, score := range levels() {
			for _, done := range []bool{false, true} {
				for width := 0; width <= 5; width++ {
					for _, length := range []int{-1, 1, 2, 3, 4} {
						for _, stop := range []int{-1, 0, 1, 16, 17} {
							l := []Beam{{Tokens: []int{6, 2}, Score: score, Done: done}}
							checkGrow(t, l, [][]int64{row}, width, length, stop)
							checkGrow(t, l, nil, width, length, stop)
						}
					}
				}
			}
		}
	}
}

// several is beams of a seed, with the rows of those that are not done, of small numbers or of all sizes.
func several(seed uint64) ([]Beam, [][]int64) {
	source := small
	if seed%2 == 1 {
		source = mixed
	}
	numbers := mixed(12, seed)
	count := 1 + int(seed%6)
	var l []Beam
	var scores [][]int64
	for i, score := range source(count, seed+1) {
		b := Beam{Tokens: counted(int(uint64(numbers[i])%4), i), Score: score, Done: numbers[i+6]%3 == 0}
		l = append(l, b)
		if !b.Done {
			scores = append(scores, source(1+int(uint64(numbers[i])%7), seed+uint64(i)))
		}
	}
	return l, scores
}

// 19.1: several beams, held against the chapter's steps.
func TestGrowSeveral(t *testing.T) {
	for seed := range uint64(3000) {
		l, scores := several(seed)
		for width := 1; width <= api.MaxBeams; width++ {
			for length := range 5 {
				checkGrow(t, l, scores, width, length, int(seed%5)-1)
			}
		}
	}
}

// 19.1: beams that are done and that are not in all orders, held against the chapter's steps.
func TestGrowOrders(t *testing.T) {
	for count := 1; count <= 6; count++ {
		for bits := range uint64(1) << count {
			for seed := range uint64(8) {
				l, scores := patterned(count, bits, seed)
				for width := 1; width <= api.MaxBeams; width++ {
					checkGrow(t, l, scores, width, 4, 1)
				}
			}
		}
	}
}

// 19.1: beams are grown again and again, until all are done, and each step is the chapter's.
func TestGrowOnward(t *testing.T) {
	for seed := range uint64(60) {
		l := []Beam{{}}
		for step := 0; step < 6; step++ {
			var scores [][]int64
			for i, b := range l {
				if !b.Done {
					scores = append(scores, small(5, seed*100+uint64(step*7+i)))
				}
			}
			checkGrow(t, l, scores, 3, 6, 2)
			l, _, _ = Grow(l, scores, 3, 6, 2)
		}
		if i := slices.IndexFunc(l, func(b Beam) bool { return !b.Done }); i >= 0 || len(l) == 0 {
			t.Errorf("seed %d: not all are done: %v", seed, l)
		}
	}
}

// 19.1, R6: long rows, many beams and many tokens end soon: candidates that are not handed out have no tokens of their own.
func TestGrowMany(t *testing.T) {
	row := make([]int64, 60000)
	for i := range row {
		row[i] = int64(i)
	}
	beams, places, e := Grow([]Beam{{Tokens: counted(60000, 0)}}, [][]int64{row}, 2, 60002, -1)
	want := []Beam{{append(counted(60000, 0), 59999), 0, false}, {append(counted(60000, 0), 59998), -1, false}}
	if !slices.EqualFunc(beams, want, same) || !slices.Equal(places, []int{0, 0}) || e != api.OK {
		t.Errorf("one beam of many tokens: places %v, error %d", places, e)
	}
	l := make([]Beam, 30000)
	scores := make([][]int64, 0, len(l))
	for i := range l {
		l[i] = Beam{Tokens: []int{i}, Score: int64(i / 3), Done: i%2 == 0}
		if !l[i].Done {
			scores = append(scores, []int64{3, 3})
		}
	}
	// The last three have 9999 each; the middle one of them is done.
	checkAnswer(t, l, scores, 4, 9, 1, []Beam{{[]int{29997, 0}, 9999, false}, {[]int{29997, 1}, 9999, true}, {[]int{29998}, 9999, true}, {[]int{29999, 0}, 9999, false}}, []int{29997, 29997, 29998, 29999}, api.OK)
}
