package turn

import (
	"math"
	"slices"
	"testing"

	"aviary/api"
)

const (
	least = math.MinInt64
	most  = math.MaxInt64
	high  = int64(api.MaxNum)
	low   = int64(api.MinNum)
)

// mixed is numbers of all sizes, the same ones each time for a seed.
func mixed(count int, seed uint64) []int64 {
	list := make([]int64, count)
	state := 88172645463325252 ^ seed<<7
	for i := range list {
		state ^= state << 13
		state ^= state >> 7
		state ^= state << 17
		list[i] = int64(state) >> (state % 61)
	}
	return list
}

// ordinary is numbers well within 32 bits, the same ones each time for a seed.
func ordinary(count int, seed uint64) []int64 {
	list := mixed(count, seed)
	for i := range list {
		list[i] %= 1 << 20
	}
	return list
}

// repeat is a pair, count times.
func repeat(a, b int64, count int) []int64 {
	return slices.Repeat([]int64{a, b}, count)
}

// short is a row as it is told in an error: long ones by their first members.
func short(list []int64) []int64 {
	return list[:min(len(list), 12)]
}

func within(x int64) int64 {
	return min(max(x, low), high)
}

func clamped(x []int64) []int64 {
	list := make([]int64, len(x))
	for i, n := range x {
		list[i] = within(n)
	}
	return list
}

// product is a member, clamped, times an entry of a table, divided by 65536, a half away from 0, clamped.
func product(x, entry int64) int64 {
	p := within(x) * entry
	if p < 0 {
		return within(-((32768 - p) / 65536))
	}
	return within((p + 32768) / 65536)
}

// wantTurn follows 6.1 with the tables of chapter 3; all sums are far within 64 bits.
func wantTurn(x []int64, place int) []int64 {
	cosines := []int64{65536, 60547, 46341, 25080, 0, -25080, -46341, -60547, -65536, -60547, -46341, -25080, 0, 25080, 46341, 60547}
	sines := []int64{0, 25080, 46341, 60547, 65536, 60547, 46341, 25080, 0, -25080, -46341, -60547, -65536, -60547, -46341, -25080}
	var list []int64
	n := 0
	for pair := range slices.Chunk(x, 2) {
		n += place
		a, b, c, s := pair[0], pair[1], cosines[n%16], sines[n%16]
		list = append(list, within(product(a, c)-product(b, s)), within(product(a, s)+product(b, c)))
	}
	return list
}

// wantHeads is wantTurn of each part.
func wantHeads(x []int64, heads, place int) []int64 {
	var list []int64
	for part := range slices.Chunk(x, len(x)/heads) {
		list = append(list, wantTurn(part, place)...)
	}
	return list
}

func checkTurn(t *testing.T, x []int64, place int, want []int64) {
	t.Helper()
	if list, e := Turn(x, place); !slices.Equal(list, want) || e != api.OK {
		t.Errorf("Turn(%v, %d): %v, error %d, not %v", short(x), place, short(list), e, short(want))
	}
}

func checkHeads(t *testing.T, x []int64, heads, place int, want []int64) {
	t.Helper()
	if list, e := Heads(x, heads, place); !slices.Equal(list, want) || e != api.OK {
		t.Errorf("Heads(%v, %d, %d): %v, error %d, not %v", short(x), heads, place, short(list), e, short(want))
	}
}

func refuseTurn(t *testing.T, members, place int, want api.Errno) {
	t.Helper()
	if list, e := Turn(ordinary(members, 1), place); len(list) != 0 || e != want {
		t.Errorf("Turn of %d members by %d: %v, error %d, not %d", members, place, short(list), e, want)
	}
}

func refuseHeads(t *testing.T, members, heads, place int, want api.Errno) {
	t.Helper()
	if list, e := Heads(ordinary(members, 1), heads, place); len(list) != 0 || e != want {
		t.Errorf("Heads of %d members, %d heads, by %d: %v, error %d, not %d", members, heads, place, short(list), e, want)
	}
}

// wrongPlaces is places beyond the bounds, at their edges and far off.
func wrongPlaces() []int {
	return []int{-1, -2, -16, -1000, math.MinInt, 1001, 1002, 1008, 1 << 20, 1 << 32, 1<<32 + 4, math.MaxInt}
}

// 6.1: one pair, by quarters of a turn and by what lies between them.
func TestTurnOnePair(t *testing.T) {
	for _, c := range []struct {
		a, b  int64
		place int
		want  []int64
	}{
		{65536, 0, 0, []int64{65536, 0}},
		{65536, 0, 1, []int64{60547, 25080}},
		{65536, 0, 2, []int64{46341, 46341}},
		{65536, 0, 3, []int64{25080, 60547}},
		{65536, 0, 4, []int64{0, 65536}},
		{65536, 0, 8, []int64{-65536, 0}},
		{65536, 0, 12, []int64{0, -65536}},
		{65536, 0, 15, []int64{60547, -25080}},
		{0, 65536, 0, []int64{0, 65536}},
		{0, 65536, 1, []int64{-25080, 60547}},
		{0, 65536, 4, []int64{-65536, 0}},
		{0, 65536, 8, []int64{0, -65536}},
		{0, 65536, 12, []int64{65536, 0}},
		{3, 5, 4, []int64{-5, 3}},
		{3, 5, 8, []int64{-3, -5}},
		{3, 5, 12, []int64{5, -3}},
		{131072, 65536, 1, []int64{121094 - 25080, 50160 + 60547}},
		{0, 0, 7, []int64{0, 0}},
		{65536, 0, 999, []int64{-60547, 25080}},
		{65536, 0, 1000, []int64{-65536, 0}},
	} {
		checkTurn(t, []int64{c.a, c.b}, c.place, c.want)
	}
}

// 6.1: each product is rounded by itself, a half away from 0.
func TestTurnRounds(t *testing.T) {
	checkTurn(t, []int64{1, 1}, 2, []int64{0, 2})
	checkTurn(t, []int64{-1, -1}, 2, []int64{0, -2})
	checkTurn(t, []int64{1, -1}, 2, []int64{2, 0})
	checkTurn(t, []int64{1, 1}, 1, []int64{1, 1})
	checkTurn(t, []int64{1, 1}, 7, []int64{-1, -1})
	// 25080 times 4096 is 1567.5 times 65536.
	checkTurn(t, []int64{4096, 0}, 3, []int64{1568, 3784})
	checkTurn(t, []int64{-4096, 0}, 3, []int64{-1568, -3784})
	checkTurn(t, []int64{0, 4096}, 1, []int64{-1568, 3784})
	checkTurn(t, []int64{0, -4096}, 1, []int64{1568, -3784})
}

// 6.1: the second pair is turned twice as far, the third one three times.
func TestTurnPairs(t *testing.T) {
	checkTurn(t, repeat(65536, 0, 2), 4, []int64{0, 65536, -65536, 0})
	checkTurn(t, repeat(65536, 0, 5), 4, []int64{0, 65536, -65536, 0, 0, -65536, 65536, 0, 0, 65536})
	checkTurn(t, repeat(0, 65536, 3), 1, []int64{-25080, 60547, -46341, 46341, -60547, 25080})
	checkTurn(t, []int64{1, 2, 3, 4, 5, 6}, 8, []int64{-1, -2, 3, 4, -5, -6})
	checkTurn(t, []int64{1, 2, 3, 4, 5, 6}, 4, []int64{-2, 1, -3, -4, 6, -5})
	// By 5, pair 15 is turned by 80, five whole turns, and the one behind it as the first one.
	list, e := Turn(repeat(65536, 0, 17), 5)
	if e != api.OK || !slices.Equal(list[30:], []int64{65536, 0, -25080, 60547}) {
		t.Errorf("%v, error %d", list, e)
	}
}

// 6.1: nothing turned is nothing.
func TestTurnEmpty(t *testing.T) {
	for _, place := range []int{0, 1, 16, 999, 1000} {
		checkTurn(t, nil, place, nil)
		checkTurn(t, []int64{}, place, nil)
	}
}

// 6.1: numbers outside of 32 bits are clamped, both members, ahead of their products.
func TestTurnClamps(t *testing.T) {
	for _, n := range []int64{high + 1, 1 << 32, 1<<32 + 5, 1 << 48, 1 << 62, most} {
		checkTurn(t, []int64{n, 0}, 0, []int64{high, 0})
		checkTurn(t, []int64{0, n}, 0, []int64{0, high})
		checkTurn(t, []int64{n, 7}, 4, []int64{-7, high})
		checkTurn(t, []int64{7, n}, 4, []int64{-high, 7})
		checkTurn(t, []int64{n, -n}, 8, []int64{-high, high})
		for place := range 16 {
			checkTurn(t, []int64{n, 5, 9, n}, place, wantTurn([]int64{high, 5, 9, high}, place))
		}
	}
	for _, n := range []int64{low - 1, -1 << 32, -1<<32 - 5, -1 << 48, -1 << 62, least} {
		checkTurn(t, []int64{n, 0}, 0, []int64{low, 0})
		checkTurn(t, []int64{0, n}, 0, []int64{0, low})
		checkTurn(t, []int64{n, 7}, 4, []int64{-7, low})
		// The product is clamped ahead of the difference, so that it is not the least number's opposite.
		checkTurn(t, []int64{7, n}, 12, []int64{-high, -7})
		for place := range 16 {
			checkTurn(t, []int64{n, 5, 9, n}, place, wantTurn([]int64{low, 5, 9, low}, place))
		}
	}
}

// 6.1: sums and differences that leave 32 bits are clamped.
func TestTurnLongSum(t *testing.T) {
	for _, c := range []struct {
		a, b  int64
		place int
		want  []int64
	}{
		{high, high, 2, []int64{0, high}},
		{high, high, 6, []int64{low, 0}},
		{high, high, 10, []int64{0, low}},
		{high, high, 14, []int64{high, 0}},
		{low, low, 2, []int64{0, low}},
		{low, low, 6, []int64{high, 0}},
		{high, low, 2, []int64{high, -1}},
		{low, high, 2, []int64{low, -1}},
		{high, -high, 2, []int64{high, 0}},
		// The opposite of the least number is one too great.
		{low, 3, 8, []int64{high, -3}},
		{3, low, 8, []int64{-3, high}},
		{3, low, 4, []int64{high, 3}},
		{low, 3, 12, []int64{3, high}},
		{low, low, 4, []int64{high, low}},
		{low, low, 12, []int64{-high, high}},
	} {
		checkTurn(t, []int64{c.a, c.b}, c.place, c.want)
	}
	// From just within to just beyond.
	for n := int64(1518494000); n < 1518508000; n += 500 {
		checkTurn(t, []int64{n, n}, 2, []int64{0, min(2*product(n, 46341), high)})
		checkTurn(t, []int64{n, -n}, 2, []int64{min(2*product(n, 46341), high), 0})
		checkTurn(t, []int64{-n, -n}, 2, []int64{0, max(-2*product(n, 46341), low)})
	}
}

// 6.1: every place, with rows of ordinary numbers and of numbers of all sizes.
func TestTurnMixed(t *testing.T) {
	for place := range 1001 {
		count := 2 * (place % 21)
		x := ordinary(count, uint64(place))
		checkTurn(t, x, place, wantTurn(x, place))
		x = mixed(40-count, uint64(place)+5000)
		checkTurn(t, x, place, wantTurn(x, place))
	}
}

// 6.1, R6: a row that is longer than any limit.
func TestTurnLongRow(t *testing.T) {
	x := mixed(1<<18, 3)
	for _, place := range []int{0, 1, 7, 999, 1000} {
		checkTurn(t, x, place, wantTurn(x, place))
	}
}

// 6.1: an odd number of members is refused, at all places: that comes ahead of a wrong place.
func TestTurnShape(t *testing.T) {
	for _, members := range []int{1, 3, 5, 7, 9, 17, 1001} {
		for _, place := range append(wrongPlaces(), 0, 1, 4, 16, 999, 1000) {
			refuseTurn(t, members, place, api.ErrShape)
		}
	}
}

// 6.1: a place that is not from 0 to 1000 is refused, of an empty row, too.
func TestTurnRange(t *testing.T) {
	for _, members := range []int{0, 2, 4, 8, 18} {
		for _, place := range wrongPlaces() {
			refuseTurn(t, members, place, api.ErrRange)
		}
	}
}

// 6.2: one head and several; each begins with its first pair anew.
func TestHeads(t *testing.T) {
	x := repeat(65536, 0, 4)
	checkHeads(t, x[:4], 2, 4, []int64{0, 65536, 0, 65536})
	checkHeads(t, x[:4], 1, 4, []int64{0, 65536, -65536, 0})
	checkHeads(t, x[:2], 1, 4, []int64{0, 65536})
	checkHeads(t, x, 1, 4, []int64{0, 65536, -65536, 0, 0, -65536, 65536, 0})
	checkHeads(t, x, 2, 4, []int64{0, 65536, -65536, 0, 0, 65536, -65536, 0})
	checkHeads(t, x, 4, 4, []int64{0, 65536, 0, 65536, 0, 65536, 0, 65536})
	checkHeads(t, []int64{1, 2, 3, 4, 5, 6}, 3, 8, []int64{-1, -2, -3, -4, -5, -6})
	checkHeads(t, []int64{1, 2, 3, 4, 5, 6}, 1, 8, []int64{-1, -2, 3, 4, -5, -6})
	checkHeads(t, []int64{1, 2, 3, 4, 5, 6, 7, 8, 9, 10, 11, 12}, 2, 4, []int64{-2, 1, -3, -4, 6, -5, -8, 7, -9, -10, 12, -11})
	checkHeads(t, []int64{most, least, high, low}, 2, 0, []int64{high, low, high, low})
	checkHeads(t, []int64{low, low, high, high}, 2, 4, []int64{high, low, -high, high})
}

// 6.2: rows of all kinds, with all numbers of heads that they have.
func TestHeadsMixed(t *testing.T) {
	for place := range 1001 {
		x := mixed(24, uint64(place))
		for _, heads := range []int{1, 2, 3, 4, 6, 12} {
			checkHeads(t, x, heads, place, wantHeads(x, heads, place))
		}
		heads, width := place%9+1, 2*(place%5)+2
		x = ordinary(heads*width, uint64(place)+5000)
		checkHeads(t, x, heads, place, wantHeads(x, heads, place))
	}
}

// 6.2, R6: a row that is longer than any limit, with few heads and with many.
func TestHeadsLongRow(t *testing.T) {
	x := mixed(1<<18, 4)
	for _, heads := range []int{1, 2, 1 << 10, 1 << 17} {
		checkHeads(t, x, heads, 999, wantHeads(x, heads, 999))
	}
}

// 6.2: an empty row has any number of empty parts; the call ends at the greatest number, too.
func TestHeadsEmpty(t *testing.T) {
	for _, heads := range []int{1, 2, 3, 7, 1 << 40, math.MaxInt - 1, math.MaxInt} {
		for _, place := range []int{0, 1, 1000} {
			checkHeads(t, nil, heads, place, nil)
			checkHeads(t, []int64{}, heads, place, nil)
		}
	}
}

// 6.2: a number of heads below 1 is refused, ahead of all else.
func TestHeadsRange(t *testing.T) {
	for _, heads := range []int{0, -1, -2, -3, -4, math.MinInt, -math.MaxInt} {
		for members := range 9 {
			for _, place := range append(wrongPlaces(), 0, 4, 1000) {
				refuseHeads(t, members, heads, place, api.ErrRange)
			}
		}
	}
}

// 6.2: a row that has not that many parts of the same even length is refused, ahead of a wrong place.
func TestHeadsShape(t *testing.T) {
	for _, c := range []struct{ members, heads int }{
		{1, 1}, {3, 1}, {5, 1}, {2, 2}, {6, 2}, {10, 2}, {3, 3}, {9, 3}, {4, 4}, {12, 4}, {8, 8},
		{1, 2}, {3, 2}, {5, 2}, {7, 2}, {2, 3}, {4, 3}, {8, 3}, {10, 3}, {2, 4}, {6, 4}, {10, 4}, {14, 4},
		{2, 1 << 40}, {2, math.MaxInt}, {8, math.MaxInt}, {1, math.MaxInt}, {1024, 1025}, {1024, 2048}, {1024, 1024},
	} {
		for _, place := range append(wrongPlaces(), 0, 4, 1000) {
			refuseHeads(t, c.members, c.heads, place, api.ErrShape)
		}
	}
	// All small ones, with their parts counted one by one.
	for members := range 40 {
		for heads := 1; heads < 45; heads++ {
			fits := false
			for width := 0; width <= members; width += 2 {
				fits = fits || width*heads == members
			}
			if !fits {
				refuseHeads(t, members, heads, 3, api.ErrShape)
			} else if list, e := Heads(ordinary(members, 2), heads, 3); len(list) != members || e != api.OK {
				t.Errorf("%d heads of %d members: %v, error %d", heads, members, list, e)
			}
		}
	}
}

// 6.2: a place that Turn refuses, of rows with parts and of an empty one.
func TestHeadsPlace(t *testing.T) {
	for _, place := range wrongPlaces() {
		for _, c := range []struct{ members, heads int }{{2, 1}, {4, 1}, {4, 2}, {8, 4}, {12, 3}, {0, 1}, {0, 2}, {0, math.MaxInt}} {
			refuseHeads(t, c.members, c.heads, place, api.ErrRange)
		}
	}
}

// 6.3: Turn by 0 is each member clamped.
func TestTurnByNought(t *testing.T) {
	for seed := range uint64(300) {
		x := mixed(2*int(seed%20), seed)
		checkTurn(t, x, 0, clamped(x))
		if len(x) > 0 {
			checkHeads(t, x, len(x)/2, 0, clamped(x))
		}
	}
	edges := []int64{least, low - 1, low, low + 1, -1, 0, 1, high - 1, high, high + 1, most, 0}
	checkTurn(t, edges, 0, clamped(edges))
}

// 6.3: 16 places more change nothing.
func TestSixteenMore(t *testing.T) {
	x := mixed(48, 9)
	for place := range 1001 - 16 {
		list, e := Turn(x, place)
		if e != api.OK {
			t.Fatalf("error %d", e)
		}
		checkTurn(t, x, place+16, list)
		list, e = Heads(x, 4, place)
		if e != api.OK {
			t.Fatalf("error %d", e)
		}
		checkHeads(t, x, 4, place+16, list)
	}
}

// 6.3: a part of Heads does not hang on the other parts.
func TestPartsApart(t *testing.T) {
	for seed := range uint64(200) {
		heads, width, place := int(seed%5)+1, 2*int(seed%4)+2, int(seed*37%1001)
		x := mixed(heads*width, seed)
		list, e := Heads(x, heads, place)
		if e != api.OK {
			t.Fatalf("error %d", e)
		}
		for h := range heads {
			from, to := h*width, (h+1)*width
			checkTurn(t, x[from:to], place, list[from:to])
			others := mixed(heads*width, seed+1000)
			copy(others[from:to], x[from:to])
			again, e := Heads(others, heads, place)
			if e != api.OK || !slices.Equal(again[from:to], list[from:to]) {
				t.Errorf("part %d of %v: %v beside other parts, not %v, error %d", h, x, again, list, e)
			}
		}
	}
}

// roomy is a row with marked room behind its end.
func roomy(list ...int64) []int64 {
	all := append(slices.Clone(list), 11, 22, 33)
	return all[:len(list)]
}

// R4: rows that are handed in are as they were afterwards, with the room behind them; answers share nothing with them.
func TestNothingChanged(t *testing.T) {
	members := []int64{most, -5, least, 70000, 3, 4, high, low}
	x := roomy(members...)
	answers := func() [][]int64 {
		var lists [][]int64
		for _, place := range []int{0, 3, 1000} {
			turned, _ := Turn(x, place)
			one, _ := Heads(x, 1, place)
			some, _ := Heads(x, 2, place)
			lists = append(lists, turned, one, some)
		}
		_, odd := Turn(x[:7], 3)
		_, far := Turn(x, 1001)
		_, parts := Heads(x, 3, 3)
		_, behind := Heads(x, 2, -1)
		return append(lists, []int64{int64(odd), int64(far), int64(parts), int64(behind)})
	}
	first := answers()
	kept := make([][]int64, len(first))
	for i, list := range first {
		kept[i] = slices.Clone(list)
	}
	for i, list := range first {
		if !slices.Equal(list, kept[i]) {
			t.Errorf("answer %d shares memory with one ahead of it", i)
		}
		for j := range cap(list) {
			list[:cap(list)][j] = 99
		}
	}
	for i, list := range answers() {
		if !slices.Equal(list, kept[i]) {
			t.Errorf("answer %d: %v, then %v", i, kept[i], list)
		}
	}
	if want := append(slices.Clone(members), 11, 22, 33); !slices.Equal(x[:cap(x)][:len(want)], want) {
		t.Errorf("changed: %v", x[:len(want)])
	}
}
