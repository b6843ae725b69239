package pick

import (
	"math"
	"slices"
	"testing"
)

const (
	least = math.MinInt64
	most  = math.MaxInt64
)

// mixed is numbers of all sizes, the same ones each time for a seed.
func mixed(count int, seed uint64) []int64 {
	list := make([]int64, count)
	state := 88172645463325252 ^ seed<<7
	for i := range list {
		state ^= state << 13
		state ^= state >> 7
		state ^= state << 17
		list[i] = int64(state) >> (state % 61)
	}
	return list
}

// few is numbers of which there are at most so many different ones, so that the same ones stand at several places.
func few(count int, seed uint64, different int64) []int64 {
	list := mixed(count, seed)
	for i := range list {
		list[i] = (list[i]%different+different)%different - different/2
	}
	return list
}

// stepped is start, start + step, and so on.
func stepped(count int, start, step int64) []int64 {
	list := make([]int64, count)
	for i := range list {
		list[i] = start + int64(i)*step
	}
	return list
}

// ends is all rows of so many members that are made of the numbers at the ends of 64 bits, and about 0.
func ends(count int) [][]int64 {
	rows := [][]int64{nil}
	for range count {
		var longer [][]int64
		for _, row := range rows {
			for _, n := range []int64{least, least + 1, -1, 0, 1, most - 1, most} {
				longer = append(longer, append(slices.Clone(row), n))
			}
		}
		rows = longer
	}
	return rows
}

// rows is rows of many kinds, the empty one among them.
func rows() [][]int64 {
	list := [][]int64{nil, {}, {0}, {least}, {most}}
	for count := range 4 {
		list = append(list, ends(count)...)
	}
	for count := range 40 {
		seed := uint64(count)
		list = append(list, mixed(count, seed), few(count, seed, 2), few(count, seed, 3), few(count, seed, 7))
		list = append(list, stepped(count, -20, 3), stepped(count, 20, -3), stepped(count, 5, 0))
	}
	return list
}

// short is a row as it is told in an error: long ones by their first members.
func short[T any](list []T) []T {
	return list[:min(len(list), 12)]
}

// wantTop takes k times the place that is left with the greatest number, the least place of those; it sorts nothing.
func wantTop(x []int64, k int) []int {
	var list []int
	taken := make([]bool, len(x))
	for len(list) < k && len(list) < len(x) {
		best := slices.Index(taken, false)
		for i := best + 1; i < len(x); i++ {
			if !taken[i] && x[i] > x[best] {
				best = i
			}
		}
		taken[best] = true
		list = append(list, best)
	}
	return list
}

// wantRank counts the greater numbers, and the same ones at lesser places.
func wantRank(x []int64, i int) int {
	count := 0
	for j, n := range x {
		if n > x[i] || n == x[i] && j < i {
			count++
		}
	}
	return count
}

func checkMax(t *testing.T, x []int64, want int) {
	t.Helper()
	if i := Max(x); i != want {
		t.Errorf("Max(%v): %d, not %d", short(x), i, want)
	}
}

func checkTop(t *testing.T, x []int64, k int, want []int) {
	t.Helper()
	if list := Top(x, k); !slices.Equal(list, want) {
		t.Errorf("Top(%v, %d): %v, not %v", short(x), k, short(list), short(want))
	}
}

func checkRank(t *testing.T, x []int64, i, want int) {
	t.Helper()
	if n := Rank(x, i); n != want {
		t.Errorf("Rank(%v, %d): %d, not %d", short(x), i, n, want)
	}
}

// The chapter's example.
func TestExample(t *testing.T) {
	x := []int64{3, 7, 7, 1}
	checkMax(t, x, 1)
	checkTop(t, x, 3, []int{1, 2, 0})
	checkRank(t, x, 3, 3)
}

// 7.1: Max of nothing, of one member, of several.
func TestMax(t *testing.T) {
	for _, c := range []struct {
		x    []int64
		want int
	}{
		{nil, -1},
		{[]int64{}, -1},
		{[]int64{0}, 0},
		{[]int64{-5}, 0},
		{[]int64{5}, 0},
		{[]int64{1, 2}, 1},
		{[]int64{2, 1}, 0},
		{[]int64{1, 2, 3}, 2},
		{[]int64{1, 3, 2}, 1},
		{[]int64{3, 1, 2}, 0},
		{[]int64{-3, -1, -2}, 1},
		{[]int64{-1, 0, -1}, 1},
		{stepped(100, -50, 1), 99},
		{stepped(100, 50, -1), 0},
	} {
		checkMax(t, c.x, c.want)
	}
}

// 7.1: the greatest more than once: the least of its places.
func TestMaxSame(t *testing.T) {
	for _, c := range []struct {
		x    []int64
		want int
	}{
		{[]int64{0, 0}, 0},
		{[]int64{4, 4, 4, 4}, 0},
		{[]int64{-4, -4, -4}, 0},
		{[]int64{1, 9, 2, 9}, 1},
		{[]int64{9, 1, 9}, 0},
		{[]int64{1, 2, 9, 9, 9}, 2},
		{[]int64{1, 1, 2, 1, 1, 2}, 2},
		{stepped(1000, 7, 0), 0},
	} {
		checkMax(t, c.x, c.want)
	}
}

// 7.1: numbers at the ends of 64 bits, whose differences leave them.
func TestMaxEnds(t *testing.T) {
	for _, c := range []struct {
		x    []int64
		want int
	}{
		{[]int64{least}, 0},
		{[]int64{most}, 0},
		{[]int64{least, least}, 0},
		{[]int64{most, most}, 0},
		{[]int64{least, most}, 1},
		{[]int64{most, least}, 0},
		{[]int64{least, least + 1}, 1},
		{[]int64{most - 1, most}, 1},
		{[]int64{least, 0, most, 0}, 2},
		{[]int64{0, least, 1}, 2},
		{[]int64{1, least, 0}, 0},
		{[]int64{-2, most, least}, 1},
		{[]int64{least, most, most, least}, 1},
	} {
		checkMax(t, c.x, c.want)
	}
}

// 7.1: Max over many rows.
func TestMaxMany(t *testing.T) {
	for _, x := range rows() {
		want := -1
		if len(x) > 0 {
			want = slices.Index(x, slices.Max(x))
		}
		checkMax(t, x, want)
	}
}

// 7.1: a k below 1 asks for none, whatever the row.
func TestTopNone(t *testing.T) {
	for _, x := range [][]int64{nil, {}, {1}, {3, 7, 7, 1}, {least, most}, mixed(100, 1)} {
		for _, k := range []int{0, -1, -2, -4, -100, math.MinInt32, math.MinInt + 1, math.MinInt} {
			checkTop(t, x, k, nil)
		}
	}
}

// 7.1: of an empty row there is no place, whatever k is.
func TestTopEmpty(t *testing.T) {
	for _, k := range []int{math.MinInt, -1, 0, 1, 2, 1 << 32, math.MaxInt} {
		checkTop(t, nil, k, nil)
		checkTop(t, []int64{}, k, nil)
	}
}

// 7.1: k less than the members, as many, and more.
func TestTopCount(t *testing.T) {
	x := []int64{10, 40, 20, 50, 30}
	all := []int{3, 1, 4, 2, 0}
	for k := 1; k <= 5; k++ {
		checkTop(t, x, k, all[:k])
	}
	for _, k := range []int{6, 7, 100, 1 << 31, 1 << 32, 1<<32 + 2, math.MaxInt - 1, math.MaxInt} {
		checkTop(t, x, k, all)
		checkTop(t, []int64{-8}, k, []int{0})
	}
}

// 7.1: of the same numbers the lesser place stands first, and is the one that is left in where k cuts them.
func TestTopSame(t *testing.T) {
	for _, c := range []struct {
		x    []int64
		want []int
	}{
		{[]int64{5, 5}, []int{0, 1}},
		{[]int64{5, 5, 5, 5}, []int{0, 1, 2, 3}},
		{[]int64{1, 2, 1, 2}, []int{1, 3, 0, 2}},
		{[]int64{2, 1, 2, 1}, []int{0, 2, 1, 3}},
		{[]int64{0, -1, 0, -1, 1, 1}, []int{4, 5, 0, 2, 1, 3}},
		{[]int64{most, least, most, least}, []int{0, 2, 1, 3}},
		{[]int64{9, 1, 9, 9}, []int{0, 2, 3, 1}},
	} {
		for k := 1; k <= len(c.x)+1; k++ {
			checkTop(t, c.x, k, c.want[:min(k, len(c.want))])
		}
	}
}

// 7.1: rows that rise, that fall, and that stay, short ones and long ones.
func TestTopStraight(t *testing.T) {
	for _, count := range []int{1, 2, 3, 11, 12, 13, 49, 50, 51, 1000} {
		up := stepped(count, 0, 1)
		var falling, rising []int
		for i := range count {
			falling = append(falling, i)
			rising = append(rising, count-1-i)
		}
		for _, k := range []int{1, (count + 1) / 2, count, count + 1} {
			kept := min(k, count)
			checkTop(t, up, k, rising[:kept])
			checkTop(t, stepped(count, 0, -1), k, falling[:kept])
			checkTop(t, stepped(count, -6, 0), k, falling[:kept])
		}
	}
}

// 7.1: rows that do neither, with the same numbers and without, at every k.
func TestTopMany(t *testing.T) {
	for _, x := range rows() {
		want := wantTop(x, len(x))
		for k := 1; k <= len(x)+2; k++ {
			checkTop(t, x, k, want[:min(k, len(want))])
		}
	}
}

// R6: a row that is longer than any limit.
func TestLong(t *testing.T) {
	for _, different := range []int64{1, 2, 5, 1 << 40} {
		x := few(3000, 9, different)
		want := wantTop(x, len(x))
		checkMax(t, x, want[0])
		for _, k := range []int{1, 2, 17, 1500, 2999, 3000, 3001} {
			checkTop(t, x, k, want[:min(k, len(want))])
		}
		for _, i := range []int{0, 1, 2, 1499, 2998, 2999} {
			checkRank(t, x, i, wantRank(x, i))
		}
	}
}

// 7.1: where there is no place i, Rank is -1.
func TestRankNoPlace(t *testing.T) {
	for _, x := range [][]int64{nil, {}, {1}, {3, 7, 7, 1}, {least, most}, mixed(50, 2)} {
		for _, i := range []int{-1, -2, -len(x) - 1, math.MinInt32, math.MinInt, len(x), len(x) + 1, 1 << 32, 1<<32 + len(x), math.MaxInt} {
			checkRank(t, x, i, -1)
		}
	}
}

// 7.1: the ranks of all places of a row, the same numbers among them.
func TestRank(t *testing.T) {
	for _, c := range []struct {
		x    []int64
		want []int
	}{
		{[]int64{0}, []int{0}},
		{[]int64{least}, []int{0}},
		{[]int64{1, 2}, []int{1, 0}},
		{[]int64{2, 1}, []int{0, 1}},
		{[]int64{5, 5}, []int{0, 1}},
		{[]int64{5, 5, 5, 5}, []int{0, 1, 2, 3}},
		{[]int64{10, 40, 20, 50, 30}, []int{4, 1, 3, 0, 2}},
		{[]int64{3, 7, 7, 1}, []int{2, 0, 1, 3}},
		{[]int64{1, 2, 1, 2}, []int{2, 0, 3, 1}},
		{[]int64{0, -1, 0, -1, 1, 1}, []int{2, 4, 3, 5, 0, 1}},
		{[]int64{least, most, 0, most, least}, []int{3, 0, 2, 1, 4}},
	} {
		for i, want := range c.want {
			checkRank(t, c.x, i, want)
		}
	}
}

// 7.1: the ranks over many rows.
func TestRankMany(t *testing.T) {
	for _, x := range rows() {
		for i := range x {
			checkRank(t, x, i, wantRank(x, i))
		}
	}
}

// 7.2: Top of all is each place once.
func TestTopIsEachPlace(t *testing.T) {
	for _, x := range append(rows(), mixed(2000, 3), few(2000, 4, 4)) {
		list := Top(x, len(x))
		seen := make([]int, len(x))
		for _, i := range list {
			if i < 0 || i >= len(x) {
				t.Fatalf("Top of all of %v holds %d, which is no place", short(x), i)
			}
			seen[i]++
		}
		for i, n := range seen {
			if n != 1 {
				t.Errorf("Top of all of %v holds the place %d %d times", short(x), i, n)
			}
		}
	}
}

// 7.2: the rank of Top's member number n is n, whatever k is.
func TestRankOfTop(t *testing.T) {
	for _, x := range append(rows(), mixed(300, 5), few(300, 6, 4)) {
		for _, k := range []int{1, 2, 3, len(x) / 2, len(x), len(x) + 1} {
			list := Top(x, k)
			if len(list) != min(k, len(x)) {
				t.Errorf("Top(%v, %d): %d places", short(x), k, len(list))
			}
			for n, i := range list {
				checkRank(t, x, i, n)
			}
		}
	}
}

// 7.2: Max is Top's first, whatever k is; of nothing there is no first.
func TestMaxIsTopsFirst(t *testing.T) {
	for _, x := range append(rows(), mixed(2000, 7), few(2000, 8, 4)) {
		for _, k := range []int{1, 2, len(x), len(x) + 1} {
			list := Top(x, k)
			if k < 1 || len(x) == 0 {
				list = []int{-1}
			}
			if len(list) == 0 || list[0] != Max(x) {
				t.Errorf("Top(%v, %d): %v, and Max %d", short(x), k, short(list), Max(x))
			}
		}
	}
}

// roomy is a row that has members behind its end, in its spare room.
func roomy(x []int64) []int64 {
	return append(slices.Clone(x), 11, most, 33)[:len(x)]
}

// R4: what is handed in stays as it was, its spare room too, and is not looked at beyond its end.
func TestNothingChanged(t *testing.T) {
	for _, x := range rows() {
		row := roomy(x)
		want := slices.Clone(row[:len(x)+3])
		Max(row)
		for _, k := range []int{-1, 0, 1, 2, len(x), len(x) + 1, len(x) + 3} {
			Top(row, k)
		}
		for i := -1; i <= len(x)+2; i++ {
			Rank(row, i)
		}
		if !slices.Equal(row[:len(x)+3], want) {
			t.Errorf("the row %v became %v", short(want), short(row[:len(x)+3]))
		}
		checkMax(t, row, Max(x))
		checkTop(t, row, len(x)+3, Top(x, len(x)))
		checkRank(t, row, len(x), -1)
	}
}

// R4: two answers share no memory, and nothing is kept from one to the next.
func TestAnswersAreNew(t *testing.T) {
	x := []int64{3, 7, 7, 1}
	for k := 1; k <= 5; k++ {
		one, two := Top(x, k), Top(x, k)
		want := slices.Clone(two)
		clear(one[:cap(one)])
		_ = append(one, 9, 9, 9)
		if !slices.Equal(two, want) {
			t.Errorf("Top(%v, %d) changed with another answer to %v", x, k, two)
		}
		checkTop(t, x, k, want)
	}
}
