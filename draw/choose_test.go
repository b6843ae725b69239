package draw

import (
	"math/big"
	"slices"
	"testing"

	"aviary/api"
	"aviary/norm"
	"aviary/pick"
	"aviary/sat"
)

// short is a row as it is told in an error: long ones by their first members.
func short[M any](list []M) []M {
	return list[:min(len(list), 12)]
}

// repeat is a row of one number, count times.
func repeat(n int64, count int) []int64 {
	return slices.Repeat([]int64{n}, count)
}

// stepped is start, start + step, and so on.
func stepped(count int, start, step int64) []int64 {
	list := make([]int64, count)
	for i := range list {
		list[i] = start + int64(i)*step
	}
	return list
}

// nearby is numbers of a seed that are so near to one another that several of them have shares.
func nearby(count int, seed uint64) []int64 {
	list := mixed(count, seed)
	for i := range list {
		list[i] %= 3 * api.One
	}
	return list
}

// wantShares is the places that are chosen from, and their shares, by the layers ahead.
func wantShares(scores []int64, k int, heat int64) ([]int, []int64) {
	places := pick.Top(scores, k)
	var row []int64
	for _, place := range places {
		row = append(row, sat.Div(scores[place], heat))
	}
	return places, norm.Soft(row)
}

// sumOf is the sum of shares.
func sumOf(shares []int64) *big.Int {
	s := new(big.Int)
	for _, share := range shares {
		s.Add(s, big.NewInt(share))
	}
	return s
}

// wantChoose is the chapter's steps one behind the other, with numbers that have no bounds.
func wantChoose(t *testing.T, scores []int64, k int, heat int64, u uint64) int {
	t.Helper()
	if len(scores) == 0 {
		return -1
	}
	if heat < 1 || k < 2 {
		return pick.Max(scores)
	}
	places, shares := wantShares(scores, k, heat)
	s := sumOf(shares)
	if s.Sign() == 0 {
		return pick.Max(scores)
	}
	r := new(big.Int).SetUint64(u)
	r.Mod(r, s)
	for i, place := range places {
		r.Sub(r, big.NewInt(shares[i]))
		if r.Sign() < 0 {
			return place
		}
	}
	t.Fatalf("no place of %v, k %d, heat %d, by %d", short(scores), k, heat, u)
	return 0
}

func checkChoose(t *testing.T, scores []int64, k int, heat int64, u uint64, want int) {
	t.Helper()
	if i := Choose(scores, k, heat, u); i != want {
		t.Errorf("Choose(%v, %d, %d, %d): %d, not %d", short(scores), k, heat, u, i, want)
	}
}

// someNumbers is numbers to choose by that hang on nothing.
func someNumbers() []uint64 {
	list := []uint64{0, 1, 2, 32767, 32768, 65535, 65536, 65537, 1<<32 - 1, 1 << 32, 1<<63 - 1, 1 << 63, whole - 1, whole}
	for n := range 8 {
		list = append(list, Bits(7, n))
	}
	return list
}

// edges is numbers to choose by about each edge between two shares, about the shares' sum and about multiples of it.
func edges(scores []int64, k int, heat int64) []uint64 {
	list := someNumbers()
	if heat < 1 {
		return list
	}
	_, shares := wantShares(scores, k, heat)
	var edge uint64
	for _, share := range shares {
		edge += uint64(share)
		list = append(list, edge-1, edge, edge+1)
	}
	if s := edge; s > 0 {
		list = append(list, s/2, 2*s-1, 2*s, 2*s+1, 1000*s-1, 1000*s, whole/s*s-1, whole/s*s)
	}
	return list
}

func heats() []int64 {
	return []int64{least, low, -65536, -1, 0, 1, 2, 100, 6553, 32768, 65535, 65536, 65537, 1 << 20, high - 1, high, high + 1, 1 << 40, most}
}

// counts is all kinds of k for so many scores.
func counts(scores int) []int {
	return []int{least, -65536, -1, 0, 1, 2, 3, scores - 1, scores, scores + 1, 65536, most}
}

// rows is rows of scores of many kinds.
func rows() [][]int64 {
	list := [][]int64{nil, {}, {0}, {least}, {most}, {low}, {high}, {-1}, {65536}, {0, 0}, {0, 0, 0}, {low, high}, {least, most}, {most, least}, {most, high, high + 1}, {least, low, low - 1}, {high, high - 1, most, 0, least, low + 1}}
	for _, count := range []int{2, 3, 5, 16, 17} {
		list = append(list, repeat(7, count), repeat(least, count), repeat(most, count))
		list = append(list, stepped(count, -30000, 9000), stepped(count, 30000, -9000), stepped(count, 0, 1), stepped(count, 0, -1), stepped(count, high-2, 1))
		for seed := range uint64(3) {
			list = append(list, mixed(count, seed), nearby(count, seed))
		}
	}
	return list
}

// 18.2: the chapter's example, with the edges of both shares.
func TestChooseExample(t *testing.T) {
	for _, c := range []struct {
		u    uint64
		want int
	}{
		{0, 0}, {1, 0}, {32767, 0}, {32768, 1}, {65535, 1}, {65536, 0}, {65536 + 32767, 0}, {65536 + 32768, 1}, {1 << 63, 0}, {whole, 1},
	} {
		checkChoose(t, []int64{0, 0}, 2, 65536, c.u, c.want)
	}
}

// 18.2: no scores have no place, with every kind of k and heat.
func TestChooseNothing(t *testing.T) {
	for _, k := range counts(0) {
		for _, heat := range heats() {
			for _, u := range someNumbers() {
				checkChoose(t, nil, k, heat, u, -1)
				checkChoose(t, []int64{}, k, heat, u, -1)
				checkChoose(t, []int64{5, 6}[:0], k, heat, u, -1)
			}
		}
	}
}

// 18.2: one score is chosen, with every kind of k and heat.
func TestChooseOne(t *testing.T) {
	for _, score := range []int64{least, low, -1, 0, 1, 65536, high, most} {
		for _, k := range counts(1) {
			for _, heat := range heats() {
				for _, u := range someNumbers() {
					checkChoose(t, []int64{score}, k, heat, u, 0)
				}
			}
		}
	}
}

// 18.2: without heat, and of less than two, the greatest score is chosen, the first of them.
func TestChooseMax(t *testing.T) {
	scores := []int64{1, 5, 3, 5, -9}
	for _, u := range someNumbers() {
		for _, heat := range []int64{least, low, -65536, -2, -1, 0} {
			for _, k := range counts(len(scores)) {
				checkChoose(t, scores, k, heat, u, 1)
			}
		}
		for _, k := range []int{least, -2, -1, 0, 1} {
			for _, heat := range heats() {
				checkChoose(t, scores, k, heat, u, 1)
			}
		}
	}
	// With the least heat, and of two, shares choose.
	checkChoose(t, []int64{5, 5}, 2, 1, 32768, 1)
}

// 18.2: shares that are reckoned by hand.
func TestChooseByHand(t *testing.T) {
	for _, c := range []struct {
		scores []int64
		k      int
		heat   int64
		u      uint64
		want   int
	}{
		// Thirds are 21845 each, 65535 together; 2^64 - 1 is a multiple of that.
		{[]int64{0, 0, 0}, 3, 65536, 21844, 0}, {[]int64{0, 0, 0}, 3, 65536, 21845, 1}, {[]int64{0, 0, 0}, 3, 65536, 43689, 1}, {[]int64{0, 0, 0}, 3, 65536, 43690, 2},
		{[]int64{0, 0, 0}, 3, 65536, 65534, 2}, {[]int64{0, 0, 0}, 3, 65536, 65535, 0}, {[]int64{0, 0, 0}, 3, 65536, 3*65535 + 21845, 1}, {[]int64{0, 0, 0}, 3, 65536, whole, 0}, {[]int64{0, 0, 0}, 3, 65536, whole - 1, 2},
		// Of three, two are chosen from; more than three are not there.
		{[]int64{0, 0, 0}, 2, 65536, 32767, 0}, {[]int64{0, 0, 0}, 2, 65536, 32768, 1}, {[]int64{0, 0, 0}, 2, 65536, 65535, 1}, {[]int64{0, 0, 0}, 2, 65536, 65536, 0},
		{[]int64{0, 0, 0}, 4, 65536, 43690, 2}, {[]int64{0, 0, 0}, most, 65536, 43690, 2},
		// So much heat makes all the same, but the order is that of the scores.
		{[]int64{1, 3, 2}, 3, high, 0, 1}, {[]int64{1, 3, 2}, 3, high, 21844, 1}, {[]int64{1, 3, 2}, 3, high, 21845, 2}, {[]int64{1, 3, 2}, 3, high, 43690, 0}, {[]int64{1, 3, 2}, 3, high, 65534, 0},
		{[]int64{1, 3, 2}, 2, high, 32768, 2}, {[]int64{1, 3, 2}, 3, most, 43690, 0},
		// e to the power of -45426 / 65536 is a half: two thirds and a third.
		{[]int64{-45426, 0}, 2, 65536, 0, 1}, {[]int64{-45426, 0}, 2, 65536, 43689, 1}, {[]int64{-45426, 0}, 2, 65536, 43690, 0}, {[]int64{-45426, 0}, 2, 65536, 65534, 0}, {[]int64{-45426, 0}, 2, 65536, 65535, 1},
		{[]int64{-90852, 0}, 2, 131072, 43689, 1}, {[]int64{-90852, 0}, 2, 131072, 43690, 0}, {[]int64{45426, 0}, 2, 65536, 43690, 1}, {[]int64{22713, 0}, 2, 32768, 43689, 0}, {[]int64{22713, 0}, 2, 32768, 43690, 1},
		// The least heat makes a number out of the least step.
		{[]int64{0, 1}, 2, 1, 0, 1}, {[]int64{0, 20}, 2, 1, whole, 1},
		// What is beyond 32 bits has the order of all its bits, and the share of what is clamped.
		{[]int64{high, most}, 2, 65536, 0, 1}, {[]int64{high, most}, 2, 65536, 32767, 1}, {[]int64{high, most}, 2, 65536, 32768, 0},
		{[]int64{least, low, low - 1}, 3, 65536, 21844, 1}, {[]int64{least, low, low - 1}, 3, 65536, 21845, 2}, {[]int64{least, low, low - 1}, 3, 65536, 43690, 0},
		{[]int64{least, most}, 2, most, 0, 1},
		// The lesser one's power of e is the least number, its share 0: there are 65535 in all.
		{[]int64{0, 11 * 65536}, 2, 65536, 65534, 1}, {[]int64{0, 11 * 65536}, 2, 65536, 65535, 1}, {[]int64{0, 11 * 65536}, 2, 65536, whole, 1},
		// Shares of 0 are gone by, whichever they are.
		{[]int64{-20 * 65536, 0, -20 * 65536, 0}, 4, 65536, 32767, 1}, {[]int64{-20 * 65536, 0, -20 * 65536, 0}, 4, 65536, 32768, 3}, {[]int64{-20 * 65536, 0, -20 * 65536, 0}, 4, 65536, 65535, 3},
	} {
		checkChoose(t, c.scores, c.k, c.heat, c.u, c.want)
	}
}

// 18.2: of so many scores that their powers' sum is clamped, the shares are more than one together.
func TestChooseMany(t *testing.T) {
	for _, c := range []struct {
		count int
		share uint64
	}{
		{16384, 4}, {21845, 3}, {21846, 2}, {32767, 2}, {32768, 2}, {32769, 2}, {40000, 2}, {70000, 2},
	} {
		scores, sum := repeat(-5, c.count), uint64(c.count)*c.share
		for _, k := range []int{c.count, c.count + 1, most} {
			checkChoose(t, scores, k, 65536, 0, 0)
			checkChoose(t, scores, k, 65536, c.share-1, 0)
			checkChoose(t, scores, k, 65536, c.share, 1)
			checkChoose(t, scores, k, 65536, sum-1, c.count-1)
			checkChoose(t, scores, k, 65536, sum, 0)
			checkChoose(t, scores, k, 65536, 7*sum-c.share, c.count-1)
			checkChoose(t, scores, k, 65536, 7*sum-c.share-1, c.count-2)
		}
		for _, u := range someNumbers() {
			checkChoose(t, scores, c.count, 65536, u, int(u%sum/c.share))
			checkChoose(t, scores, 1, 65536, u, 0)
			checkChoose(t, scores, c.count, 0, u, 0)
			checkChoose(t, scores, 2, 65536, u, int(u%65536/32768))
		}
	}
	for seed := range uint64(2) {
		scores := nearby(40000, seed)
		for _, u := range someNumbers() {
			checkChoose(t, scores, len(scores), 1<<20, u, wantChoose(t, scores, len(scores), 1<<20, u))
			checkChoose(t, scores, 39000, high, u, wantChoose(t, scores, 39000, high, u))
		}
	}
}

// 18.2: all kinds of scores, k, heats and numbers, held against the chapter's steps.
func TestChooseSteps(t *testing.T) {
	for _, scores := range rows() {
		for _, k := range counts(len(scores)) {
			for _, heat := range heats() {
				for _, u := range edges(scores, k, heat) {
					checkChoose(t, scores, k, heat, u, wantChoose(t, scores, k, heat, u))
				}
			}
		}
	}
}

// 18.2: of all numbers below the shares' sum each place is chosen by as many as its share is.
func TestChooseShares(t *testing.T) {
	for seed := range uint64(6) {
		scores := nearby(6, seed)
		chosen := make([]int64, len(scores))
		places, shares := wantShares(scores, 5, 65536)
		for u := range sumOf(shares).Uint64() {
			chosen[Choose(scores, 5, 65536, u)]++
		}
		for i, place := range places {
			if chosen[place] != shares[i] {
				t.Errorf("of %v the place %d was chosen %d times, its share is %d", scores, place, chosen[place], shares[i])
			}
		}
	}
}
