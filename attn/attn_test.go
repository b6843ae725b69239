package attn

import (
	"math"
	"math/big"
	"slices"
	"testing"

	"aviary/api"
	"aviary/curve"
)

const (
	least = math.MinInt64
	most  = math.MaxInt64
	high  = int64(api.MaxNum)
	low   = int64(api.MinNum)
)

// rows is a short name for what is handed in.
type rows = [][]int64

// mixed is numbers of all sizes, the same ones each time for a seed.
func mixed(count int, seed uint64) []int64 {
	list := make([]int64, count)
	state := 88172645463325252 ^ seed<<7
	for i := range list {
		state ^= state << 13
		state ^= state >> 7
		state ^= state << 17
		list[i] = int64(state) >> (state % 61)
	}
	return list
}

// ordinary is numbers from -4 to 4, with 16 bits behind the point, the same ones each time for a seed.
func ordinary(count int, seed uint64) []int64 {
	list := mixed(count, seed)
	for i := range list {
		list[i] %= 4 * api.One
	}
	return list
}

// grid is so many rows of that length, cut out of what a function makes of their number and a seed.
func grid(make func(int, uint64) []int64, count, length int, seed uint64) rows {
	return slices.Collect(slices.Chunk(make(count*length, seed), length))
}

// flat is so many rows of that length, all of one number.
func flat(count, length int, n int64) rows {
	list := make(rows, count)
	for i := range list {
		list[i] = slices.Repeat([]int64{n}, length)
	}
	return list
}

// units is rows with One at the place of their number: what is made of such values are the shares.
func units(count int) rows {
	list := flat(count, count, 0)
	for i := range list {
		list[i][i] = api.One
	}
	return list
}

// short is a list as it is told in an error: long ones by their first members.
func short[M any](list []M) []M {
	return list[:min(len(list), 8)]
}

func within(x *big.Int, low, high int64) *big.Int {
	if x.Cmp(big.NewInt(low)) < 0 {
		return big.NewInt(low)
	}
	if x.Cmp(big.NewInt(high)) > 0 {
		return big.NewInt(high)
	}
	return x
}

func number(x *big.Int) *big.Int {
	return within(x, low, high)
}

func clamped(x int64) *big.Int {
	return number(big.NewInt(x))
}

// rounded is x divided by 65536, to the nearest whole number, a half away from 0, clamped.
func rounded(x *big.Int) *big.Int {
	size := new(big.Int).Abs(x)
	size.Add(size, big.NewInt(32768)).Rsh(size, 16)
	if x.Sign() < 0 {
		size.Neg(size)
	}
	return number(size)
}

// together is the sum of products of numbers, each sum brought into 64 bits, divided by 65536.
func together(pairs [][2]*big.Int) *big.Int {
	sum := new(big.Int)
	for _, p := range pairs {
		sum.Add(sum, new(big.Int).Mul(p[0], p[1]))
		sum = within(sum, least, most)
	}
	return rounded(sum)
}

// wantScores follows 15.1 with whole numbers without bounds.
func wantScores(q []int64, keys rows) []int64 {
	r := new(big.Int).Div(new(big.Int).Lsh(big.NewInt(1), 48), clamped(int64(len(q))<<16))
	r.Sqrt(r)
	var list []int64
	for _, key := range keys {
		var pairs [][2]*big.Int
		for i, n := range key {
			pairs = append(pairs, [2]*big.Int{clamped(q[i]), clamped(n)})
		}
		list = append(list, rounded(new(big.Int).Mul(together(pairs), r)).Int64())
	}
	return list
}

// wantShares follows 5.2 with whole numbers without bounds.
func wantShares(scores []int64) []int64 {
	top, sum := slices.Max(scores), new(big.Int)
	list := make([]int64, len(scores))
	for i, n := range scores {
		list[i] = curve.Exp(n - top)
		sum.Add(sum, big.NewInt(list[i]))
	}
	for i, e := range list {
		list[i] = new(big.Int).Div(big.NewInt(e<<16), number(sum)).Int64()
	}
	return list
}

// wantHead follows 15.1 with whole numbers without bounds.
func wantHead(q []int64, keys, values rows) []int64 {
	shares := wantShares(wantScores(q, keys))
	list := make([]int64, len(q))
	for place := range q {
		var pairs [][2]*big.Int
		for i, share := range shares {
			pairs = append(pairs, [2]*big.Int{big.NewInt(share), clamped(values[i][place])})
		}
		list[place] = together(pairs).Int64()
	}
	return list
}

func checkHead(t *testing.T, q []int64, keys, values rows, want []int64) {
	t.Helper()
	if list, e := Head(q, keys, values); !slices.Equal(list, want) || e != api.OK {
		t.Errorf("Head(%v, %v, %v): %v, error %d, not %v", short(q), short(keys), short(values), short(list), e, short(want))
	}
}

func checkAll(t *testing.T, q []int64, keys, values rows, heads int, want []int64) {
	t.Helper()
	if list, e := All(q, keys, values, heads); !slices.Equal(list, want) || e != api.OK {
		t.Errorf("All(%v, %v, %v, %d): %v, error %d, not %v", short(q), short(keys), short(values), heads, short(list), e, short(want))
	}
}

func refuseHead(t *testing.T, q []int64, keys, values rows) {
	t.Helper()
	if list, e := Head(q, keys, values); len(list) != 0 || e != api.ErrShape {
		t.Errorf("Head(%v, %v, %v): %v, error %d", q, keys, values, list, e)
	}
}

func refuseAll(t *testing.T, q []int64, keys, values rows, heads int, want api.Errno) {
	t.Helper()
	if list, e := All(q, keys, values, heads); len(list) != 0 || e != want {
		t.Errorf("All(%v, %v, %v, %d): %v, error %d, not %d", q, keys, values, heads, list, e, want)
	}
}

// 15.1: the chapter's example, and answers that are reckoned by hand.
func TestHead(t *testing.T) {
	for _, c := range []struct {
		q            []int64
		keys, values rows
		want         []int64
	}{
		{[]int64{0, 0}, rows{{1, 2}, {3, 4}}, rows{{65536, 0}, {0, 65536}}, []int64{32768, 32768}},
		{[]int64{0}, rows{{7}, {7}}, rows{{65536}, {-65536}}, []int64{0}},
		{[]int64{65536}, rows{{65536}, {65536}}, rows{{10}, {30}}, []int64{20}},
		// A key that fits far better has the whole share.
		{[]int64{65536}, rows{{0}, {20 * 65536}, {0}}, rows{{5}, {-6}, {7}}, []int64{-6}},
		{[]int64{-65536}, rows{{-20 * 65536}, {0}, {0}}, rows{{5}, {-6}, {7}}, []int64{5}},
		{[]int64{65536, 65536}, rows{{0, 0}, {0, 0}, {20 * 65536, 20 * 65536}}, rows{{1, 2}, {3, 4}, {5, 6}}, []int64{5, 6}},
		// Two that fit far better have a half each.
		{[]int64{65536}, rows{{20 * 65536}, {0}, {20 * 65536}}, rows{{4}, {65536}, {8}}, []int64{6}},
		// Four have a fourth each, place by place.
		{[]int64{0, 0, 0}, flat(4, 3, 9), rows{{4, 0, -8}, {8, 0, -16}, {12, 4, 0}, {16, 0, 0}}, []int64{10, 1, -6}},
	} {
		checkHead(t, c.q, c.keys, c.values, c.want)
		if want := wantHead(c.q, c.keys, c.values); !slices.Equal(want, c.want) {
			t.Errorf("%v, %v, %v: %v told, %v reckoned", c.q, c.keys, c.values, c.want, want)
		}
	}
}

// 15.1: shares that are not all the same: they are those of the scores, by their powers of e.
func TestHeadShares(t *testing.T) {
	e := curve.Exp(-65536)
	sum := 65536 + e
	// Of one place the score is the product: 1 and 0, 0 and -1, ½ and -½.
	for _, keys := range []rows{{{65536}, {0}}, {{0}, {-65536}}, {{32768}, {-32768}}} {
		checkHead(t, []int64{65536}, keys, rows{{65536}, {0}}, []int64{65536 * 65536 / sum})
		checkHead(t, []int64{65536}, keys, rows{{0}, {65536}}, []int64{e * 65536 / sum})
		checkHead(t, []int64{-65536}, keys, rows{{65536}, {0}}, []int64{e * 65536 / sum})
	}
	// Of four places the score is half the product; of the keys one is 2 ahead of the others.
	keys := flat(4, 4, 7)
	keys[2][1] += 2 * 65536
	sum = 65536 + 3*e
	small, great := e*65536/sum, 65536*65536/sum
	checkHead(t, []int64{0, 65536, 0, 0}, keys, units(4), []int64{small, small, great, small})
}

// 15.1: a score is Inner of q and the key, times Rsqrt of the length times 65536.
func TestScores(t *testing.T) {
	for _, c := range []struct {
		q    []int64
		keys rows
		want []int64
	}{
		// Inner: products of places, summed up, rounded once.
		{[]int64{65536}, rows{{5}, {-5}, {0}}, []int64{5, -5, 0}},
		{[]int64{32768}, rows{{1}, {-1}, {3}, {-3}}, []int64{1, -1, 2, -2}},
		{[]int64{32768, 32768, 32768, 32768}, rows{{1, 1, 1, 1}, {3, 0, 0, 0}, {-3, 1, 1, 1}}, []int64{1, 1, 0}},
		// Rsqrt of 1, 2, 3 and 4 times 65536: 65536, 46340, 37837, 32768.
		{[]int64{65536}, rows{{65536}}, []int64{65536}},
		{[]int64{65536, 0}, rows{{65536, 9}, {-65536, 9}}, []int64{46340, -46340}},
		{[]int64{0, 65536, 0}, rows{{9, 65536, 9}}, []int64{37837}},
		{[]int64{0, 0, 65536, 0}, rows{{0, 0, 65536, 0}}, []int64{32768}},
		{[]int64{65536, 65536, 65536, 65536}, rows{{65536, 65536, 65536, 65536}}, []int64{131072}},
		// The product is rounded, a half away from 0: 5 and -5 times a half.
		{[]int64{65536, 0, 0, 0}, rows{{5, 0, 0, 0}, {-5, 0, 0, 0}, {4, 0, 0, 0}}, []int64{3, -3, 2}},
		// Inner is clamped ahead of the product.
		{[]int64{high, high, high, high}, rows{{65536, 65536, 65536, 65536}, {-65536, -65536, -65536, -65536}}, []int64{1 << 30, -1 << 30}},
		{[]int64{most}, rows{{most}, {least}}, []int64{high, low}},
		{[]int64{least, least, least, least}, rows{{most, most, most, most}, {least, least, least, least}}, []int64{-1 << 30, 1 << 30}},
		// What is above 32 bits is clamped, not cut off.
		{[]int64{1<<32 + 1}, rows{{65536}, {-65536}}, []int64{high, -high}},
		{[]int64{65536}, rows{{1<<32 + 1}, {-1<<32 - 1}}, []int64{high, low}},
	} {
		if got := scores(c.q, c.keys); !slices.Equal(got, c.want) {
			t.Errorf("%v and %v: the scores %v, not %v", c.q, c.keys, got, c.want)
		}
		if want := wantScores(c.q, c.keys); !slices.Equal(want, c.want) {
			t.Errorf("%v and %v: the scores %v told, %v reckoned", c.q, c.keys, c.want, want)
		}
		values := grid(mixed, len(c.keys), len(c.q), 3)
		checkHead(t, c.q, c.keys, values, wantHead(c.q, c.keys, values))
	}
}

// 15.1: what is between the scores is seen in the shares, at each length up to 8 and at some great ones.
func TestHeadLengths(t *testing.T) {
	for _, length := range []int{1, 2, 3, 4, 5, 6, 7, 8, 9, 16, 100, 32767, 32768, 40000} {
		q := make([]int64, length)
		keys := flat(2, length, 0)
		q[length-1], keys[0][length-1] = 65536, 65536
		e := curve.Exp(-curve.Rsqrt(min(int64(length)*65536, high)))
		values := flat(2, length, 0)
		values[1][0] = 65536
		want := make([]int64, length)
		want[0] = e * 65536 / (65536 + e)
		checkHead(t, q, keys, values, want)
	}
}

// 15.1: a sum of Inner that leaves 64 bits stays at their edge on its way, from the first place on.
func TestHeadInnerOrder(t *testing.T) {
	// A great product and one that is not quite its opposite; three of each come to a small sum, if none of them leaves 64 bits.
	up, down := [2]int64{low, low}, [2]int64{low, high}
	for _, c := range []struct {
		pairs [][2]int64
		score int64
		want  []int64
	}{
		{[][2]int64{up, down, up, down, up, down}, 40131, nil},
		{[][2]int64{down, up, down, up, down, up}, 40131, nil},
		{[][2]int64{up, up, up, down, down, down}, -876675072, []int64{0, 65536, 0, 0, 0, 0}},
		{[][2]int64{down, down, down, up, up, up}, 876675072, []int64{65536, 0, 0, 0, 0, 0}},
	} {
		q, keys := make([]int64, 6), flat(2, 6, 0)
		for i, p := range c.pairs {
			q[i], keys[0][i] = p[0], p[1]
		}
		score := wantScores(q, keys)[0]
		if got := scores(q, keys)[0]; got != c.score || score != c.score {
			t.Errorf("%v: the score %d, %d reckoned, not %d", c.pairs, got, score, c.score)
		}
		values := rows{units(6)[0], units(6)[1]}
		want := wantHead(q, keys, values)
		if c.want != nil && !slices.Equal(want, c.want) {
			t.Errorf("%v: %v told, %v reckoned", c.pairs, c.want, want)
		}
		checkHead(t, q, keys, values, want)
	}
}

// 15.1: a place's sum goes row by row, by sat.Add. (Soft's shares are together far too small for a sum to leave 64 bits; so shares that are greater are handed in here.)
func TestBlendOrder(t *testing.T) {
	share := int64(1 << 31)
	for _, c := range []struct {
		members []int64
		want    int64
	}{
		{[]int64{high, low, high, low}, -65536},
		{[]int64{low, high, low, high}, -65536},
		{[]int64{high, high, high, low, low, low}, low},
		{[]int64{low, low, low, high, high, high}, high},
		{[]int64{low, low, low, low}, low},
		{[]int64{high, high, high, high}, high},
	} {
		var values rows
		var pairs [][2]*big.Int
		for _, m := range c.members {
			values = append(values, []int64{77, m})
			pairs = append(pairs, [2]*big.Int{big.NewInt(share), big.NewInt(m)})
		}
		shares := slices.Repeat([]int64{share}, len(c.members))
		if got := blend(shares, values, 1); got != c.want {
			t.Errorf("%v: %d, not %d", c.members, got, c.want)
		}
		if want := together(pairs).Int64(); want != c.want {
			t.Errorf("%v: %d told, %d reckoned", c.members, c.want, want)
		}
	}
}

// 15.1: a value's member is clamped ahead of its share.
func TestHeadClampsMembers(t *testing.T) {
	for _, n := range []int64{high + 1, 1 << 32, 1<<32 + 5, 1 << 47, 1<<48 + 1, 1 << 62, most} {
		checkHead(t, []int64{0}, rows{{0}, {0}}, rows{{n}, {0}}, []int64{1 << 30})
		checkHead(t, []int64{0}, rows{{0}, {0}}, rows{{n}, {n}}, []int64{high})
		checkHead(t, []int64{0}, rows{{0}, {0}}, rows{{-n - 1}, {0}}, []int64{-1 << 30})
		checkHead(t, []int64{0}, rows{{0}, {0}}, rows{{-n - 1}, {-n - 1}}, []int64{low})
		// A half of both edges together, which is a half below 0.
		checkHead(t, []int64{0}, rows{{0}, {0}}, rows{{n}, {-n - 1}}, []int64{-1})
		checkHead(t, []int64{0, 0}, flat(2, 2, 0), rows{{5, n}, {-n - 1, 9}}, []int64{-1<<30 + 2, 1<<30 + 4})
	}
}

// 15.1: Shift rounds once, behind the sum, a half away from 0, also below 0.
func TestHeadRounds(t *testing.T) {
	for _, c := range []struct {
		members []int64
		want    int64
	}{
		{[]int64{1, 0}, 1}, {[]int64{-1, 0}, -1}, {[]int64{1, 1}, 1}, {[]int64{-1, -1}, -1}, {[]int64{1, -1}, 0},
		{[]int64{1, 2}, 2}, {[]int64{-1, -2}, -2}, {[]int64{3, -2}, 1}, {[]int64{-3, 2}, -1}, {[]int64{-3, 0}, -2},
		// Of three rows each has 21845 of 65536.
		{[]int64{1, 0, 0}, 0}, {[]int64{-1, 0, 0}, 0}, {[]int64{1, 1, 0}, 1}, {[]int64{-1, 0, -1}, -1}, {[]int64{1, 1, 1}, 1}, {[]int64{-1, -1, -1}, -1},
		// Of four each has a fourth: what is rounded row by row would be 0, or 4.
		{[]int64{1, 1, 1, 0}, 1}, {[]int64{1, 1, 0, 0}, 1}, {[]int64{1, 0, 0, 0}, 0}, {[]int64{-1, -1, 0, 0}, -1}, {[]int64{-1, 0, 0, 0}, 0}, {[]int64{2, 2, 2, 2}, 2},
	} {
		var values rows
		for _, m := range c.members {
			values = append(values, []int64{m})
		}
		checkHead(t, []int64{5}, flat(len(values), 1, 3), values, []int64{c.want})
	}
}

// 15.1: the answer is clamped: of very many rows the shares are together more than one.
func TestHeadClampsAnswer(t *testing.T) {
	count := 40000
	keys := flat(count, 1, 0)
	// The sum of powers is clamped, so that each share is 2.
	checkHead(t, []int64{0}, keys, flat(count, 1, high), []int64{high})
	checkHead(t, []int64{0}, keys, flat(count, 1, low), []int64{low})
	checkHead(t, []int64{0}, keys, flat(count, 1, 65536), []int64{80000})
	checkHead(t, []int64{0}, keys, flat(count, 1, -65536), []int64{-80000})
}

// 15.1: the smallest and the greatest numbers, at every place, in one and in several.
func TestHeadEdges(t *testing.T) {
	edges := []int64{least, low, -65536, -1, 0, 1, 65536, high, most}
	for _, a := range edges {
		for _, b := range edges {
			for _, c := range edges {
				checkHead(t, []int64{a}, rows{{b}, {c}}, rows{{c}, {a}}, wantHead([]int64{a}, rows{{b}, {c}}, rows{{c}, {a}}))
				q, keys, values := []int64{a, b, c}, rows{{b, c, a}, {c, a, b}, {a, a, a}}, rows{{c, b, a}, {a, b, b}, {b, 0, 5}}
				checkHead(t, q, keys, values, wantHead(q, keys, values))
			}
		}
	}
}

// 15.1: rows of all kinds, held against whole numbers without bounds.
func TestHeadMixed(t *testing.T) {
	for seed := range uint64(2000) {
		length, count := int(seed%9)+1, int(seed/9%25)+1
		kind := ordinary
		if seed%3 == 0 {
			kind = mixed
		}
		q, keys, values := kind(length, seed), grid(kind, count, length, seed+5000), grid(kind, count, length, seed+9000)
		checkHead(t, q, keys, values, wantHead(q, keys, values))
		values = grid(mixed, count, length, seed+20000)
		checkHead(t, q, keys, values, wantHead(q, keys, values))
	}
}

// wrongRows hands on rows of which the first, the last or one between is a bit or much too short or too long.
func wrongRows(count, length int, do func(rows)) {
	for _, place := range []int{0, count / 2, count - 1} {
		for _, wrong := range []int{0, length / 2, length - 1, length + 1, 2 * length, 100} {
			list := flat(count, length, 5)
			list[place] = slices.Repeat([]int64{5}, wrong)
			do(list)
		}
		list := flat(count, length, 5)
		list[place] = nil
		do(list)
	}
}

// 15.1: what is empty, too few or too many, too short or too long is refused, with nothing beside the error.
func TestHeadShape(t *testing.T) {
	for _, empty := range [][]int64{nil, {}} {
		refuseHead(t, empty, nil, nil)
		refuseHead(t, empty, rows{{}}, rows{{}})
		refuseHead(t, empty, rows{nil, {}}, rows{{}, nil})
		refuseHead(t, empty, rows{{1}}, rows{{1}})
	}
	for _, none := range []rows{nil, {}} {
		refuseHead(t, []int64{1}, none, none)
		refuseHead(t, []int64{1, 2}, none, rows{})
		refuseHead(t, []int64{1}, none, rows{{1}})
		refuseHead(t, []int64{1}, rows{{1}}, none)
	}
	for _, length := range []int{1, 2, 4} {
		q := slices.Repeat([]int64{3}, length)
		for count := 1; count <= 5; count++ {
			good := flat(count, length, 7)
			refuseHead(t, q, good, flat(count-1, length, 7))
			refuseHead(t, q, good, flat(count+1, length, 7))
			refuseHead(t, q, flat(count-1, length, 7), good)
			refuseHead(t, q, flat(count+1, length, 7), good)
			wrongRows(count, length, func(wrong rows) {
				refuseHead(t, q, wrong, good)
				refuseHead(t, q, good, wrong)
				refuseHead(t, q, wrong, wrong)
			})
			refuseHead(t, append(q, 3), good, good)
			refuseHead(t, q[1:], good, good)
		}
	}
}

// window is the rows' members from one place to another.
func window(list rows, from, to int) rows {
	var cut rows
	for _, row := range list {
		cut = append(cut, row[from:to])
	}
	return cut
}

// wantAll is Head of the parts, one behind the other.
func wantAll(t *testing.T, q []int64, keys, values rows, heads int) []int64 {
	t.Helper()
	var list []int64
	for h := range heads {
		from, to := h*len(q)/heads, (h+1)*len(q)/heads
		part, k, v := q[from:to], window(keys, from, to), window(values, from, to)
		answer, e := Head(part, k, v)
		if want := wantHead(part, k, v); !slices.Equal(answer, want) || e != api.OK {
			t.Errorf("Head(%v, %v, %v): %v, error %d, not %v", part, k, v, answer, e, want)
		}
		list = append(list, answer...)
	}
	return list
}

// 15.2: All of ordinary rows: each head looks by itself.
func TestAll(t *testing.T) {
	checkAll(t, []int64{7, 9}, rows{{1, 2}}, rows{{5, 6}}, 2, []int64{5, 6})
	checkAll(t, []int64{7}, rows{{1}}, rows{{5}}, 1, []int64{5})
	// The first head sees the first row, the second one the second.
	q := []int64{65536, 0, 65536, 0}
	keys := rows{{20 * 65536, 0, 0, 0}, {0, 0, 20 * 65536, 0}}
	values := rows{{1, 2, 3, 4}, {5, 6, 7, 8}}
	checkAll(t, q, keys, values, 2, []int64{1, 2, 7, 8})
	// One head sees both, by halves: 1.5 is rounded away from 0.
	checkAll(t, q, keys, values, 1, []int64{3, 4, 5, 6})
	// Of four heads of one place the second and the fourth see both.
	checkAll(t, q, keys, values, 4, []int64{1, 4, 7, 6})
	// The length of a part makes its scores: that is 1 here, 4 with one head.
	e := curve.Exp(-65536)
	checkAll(t, []int64{65536, 0, 0, 0}, rows{{65536, 0, 0, 0}, {0, 0, 0, 0}}, rows{{65536, 65536, 0, 0}, {0, 0, 0, 0}}, 4, []int64{65536 * 65536 / (65536 + e), 32768, 0, 0})
	e = curve.Exp(-32768)
	share := 65536 * 65536 / (65536 + e)
	checkAll(t, []int64{65536, 0, 0, 0}, rows{{65536, 0, 0, 0}, {0, 0, 0, 0}}, rows{{65536, 65536, 0, 0}, {0, 0, 0, 0}}, 1, []int64{share, share, 0, 0})
}

// 15.2: All of rows of all kinds is Head of the parts, one behind the other; with one head it is Head.
func TestAllMixed(t *testing.T) {
	for seed := range uint64(1500) {
		heads, width, count := int(seed%6)+1, int(seed/6%5)+1, int(seed/30%25)+1
		kind := ordinary
		if seed%4 == 0 {
			kind = mixed
		}
		length := heads * width
		q, keys, values := kind(length, seed), grid(kind, count, length, seed+5000), grid(mixed, count, length, seed+9000)
		checkAll(t, q, keys, values, heads, wantAll(t, q, keys, values, heads))
		checkAll(t, q, keys, values, 1, wantHead(q, keys, values))
		checkAll(t, q, keys, values, length, wantAll(t, q, keys, values, length))
	}
}

// 15.2: a long row, with few and with many heads.
func TestAllLongRow(t *testing.T) {
	q, keys, values := ordinary(6000, 1), grid(ordinary, 3, 6000, 2), grid(mixed, 3, 6000, 3)
	for _, heads := range []int{1, 2, 1000, 3000, 6000} {
		checkAll(t, q, keys, values, heads, wantAll(t, q, keys, values, heads))
	}
}

// 15.2: heads below 1 are refused ahead of everything else.
func TestAllRange(t *testing.T) {
	good := flat(2, 4, 7)
	for _, heads := range []int{0, -1, -2, -4, math.MinInt} {
		refuseAll(t, good[0], good, good, heads, api.ErrRange)
		refuseAll(t, good[0][:3], good, good, heads, api.ErrRange)
		refuseAll(t, good[0], good, good[:1], heads, api.ErrRange)
		refuseAll(t, good[0], nil, nil, heads, api.ErrRange)
		refuseAll(t, nil, good, good, heads, api.ErrRange)
		refuseAll(t, nil, nil, nil, heads, api.ErrRange)
		refuseAll(t, good[0], rows{{1}}, rows{{1}}, heads, api.ErrRange)
	}
}

// 15.2: a length that is not divided by heads is refused, also where everything else is right.
func TestAllDivided(t *testing.T) {
	for length := 1; length <= 12; length++ {
		list := flat(3, length, 7)
		for _, heads := range []int{1, 2, 3, 4, 5, 6, 7, 8, 9, 10, 11, 12, 13, 24, 1 << 32, math.MaxInt} {
			if length%heads == 0 {
				checkAll(t, list[0], list, list, heads, list[0])
				continue
			}
			refuseAll(t, list[0], list, list, heads, api.ErrShape)
			refuseAll(t, list[0], list, nil, heads, api.ErrShape)
		}
	}
}

// 15.2: what Head refuses is refused whole, however the parts would fit.
func TestAllShape(t *testing.T) {
	for _, heads := range []int{1, 2, 4, 3, math.MaxInt} {
		for _, empty := range [][]int64{nil, {}} {
			refuseAll(t, empty, nil, nil, heads, api.ErrShape)
			refuseAll(t, empty, rows{{}}, rows{{}}, heads, api.ErrShape)
			refuseAll(t, empty, rows{{1}}, rows{{1}}, heads, api.ErrShape)
		}
	}
	for _, heads := range []int{1, 2, 4} {
		q := []int64{3, 3, 3, 3}
		refuseAll(t, q, nil, nil, heads, api.ErrShape)
		refuseAll(t, q, rows{}, rows{}, heads, api.ErrShape)
		for count := 1; count <= 4; count++ {
			good := flat(count, 4, 7)
			refuseAll(t, q, good, flat(count-1, 4, 7), heads, api.ErrShape)
			refuseAll(t, q, good, flat(count+1, 4, 7), heads, api.ErrShape)
			refuseAll(t, q, flat(count-1, 4, 7), good, heads, api.ErrShape)
			refuseAll(t, q, flat(count+1, 4, 7), good, heads, api.ErrShape)
			wrongRows(count, 4, func(wrong rows) {
				refuseAll(t, q, wrong, good, heads, api.ErrShape)
				refuseAll(t, q, good, wrong, heads, api.ErrShape)
				refuseAll(t, q, wrong, wrong, heads, api.ErrShape)
			})
			// Rows that have room behind their end are of their length all the same.
			room := flat(count, 6, 7)
			room[count-1] = room[count-1][:2]
			refuseAll(t, q, room, good, heads, api.ErrShape)
			refuseAll(t, q[:2:4], good, good, heads, api.ErrShape)
		}
	}
}

// 15.2: the first place that is seen, below the window, at it and above it.
func TestVisible(t *testing.T) {
	for _, c := range []struct{ place, window, want int }{
		{5, 3, 3}, {1, 3, 0}, {2, 3, 0}, {3, 3, 1}, {4, 3, 2}, {9, 0, 0}, {9, -1, 0},
		{0, 1, 0}, {1, 1, 1}, {2, 1, 2}, {23, 1, 23}, {15, 16, 0}, {16, 16, 1}, {17, 16, 2},
		{-1, 1, 0}, {-5, 3, 0}, {-5, -5, 0}, {-5, -9, 0}, {-1, 0, 0}, {0, 0, 0}, {0, -1, 0},
		{math.MaxInt, 1, math.MaxInt}, {math.MaxInt, 2, math.MaxInt - 1}, {math.MaxInt, math.MaxInt, 1},
		{math.MaxInt - 1, math.MaxInt, 0}, {math.MaxInt - 1, math.MaxInt - 1, 1},
		{math.MaxInt, 0, 0}, {math.MaxInt, -1, 0}, {math.MaxInt, math.MinInt, 0},
		{math.MinInt, 1, 0}, {math.MinInt, math.MaxInt, 0}, {math.MinInt, math.MinInt, 0}, {math.MinInt, 0, 0}, {0, math.MinInt, 0}, {0, math.MaxInt, 0},
	} {
		if got := Visible(c.place, c.window); got != c.want {
			t.Errorf("Visible(%d, %d): %d, not %d", c.place, c.window, got, c.want)
		}
	}
}

// 15.2: from Visible on, up to the place itself, as many are seen as the window tells, or all.
func TestVisibleCount(t *testing.T) {
	for place := range 60 {
		for window := 1; window < 60; window++ {
			if seen := place - Visible(place, window) + 1; seen != min(window, place+1) {
				t.Errorf("Visible(%d, %d): %d are seen", place, window, seen)
			}
		}
	}
}

// 15.3: with one row the answer is its value, clamped, whatever looks at whatever key.
func TestOneRow(t *testing.T) {
	value := []int64{least, low - 1, low, low + 1, -65537, -1, 0, 1, 3, 65536, high - 1, high, high + 1, 1<<32 + 7, 1 << 48, most}
	want := []int64{low, low, low, low + 1, -65537, -1, 0, 1, 3, 65536, high - 1, high, high, high, high, high}
	for seed := range uint64(100) {
		q, key := mixed(len(value), seed), mixed(len(value), seed+1000)
		checkHead(t, q, rows{key}, rows{value}, want)
		for _, heads := range []int{1, 2, 4, 8, 16} {
			checkAll(t, q, rows{key}, rows{value}, heads, want)
		}
		for i := range value {
			checkHead(t, q[i:i+1], rows{key[:1]}, rows{value[i : i+1]}, want[i:i+1])
		}
	}
}

// 15.3: with rows that are all the same the answer is that of one; only shares that do not come out even take a bit of it.
func TestSameRows(t *testing.T) {
	for seed := range uint64(60) {
		q, key, value := mixed(8, seed), mixed(8, seed+1000), mixed(8, seed+2000)
		one, e := Head(q, rows{key}, rows{value})
		if e != api.OK {
			t.Fatalf("error %d", e)
		}
		for _, count := range []int{2, 3, 4, 5, 6, 7, 8, 16, 24, 64, 100, 1024} {
			keys, values := slices.Repeat(rows{key}, count), slices.Repeat(rows{value}, count)
			want := make([]int64, len(one))
			for i, n := range one {
				shares := int64(65536 / count * count)
				want[i] = rounded(new(big.Int).Mul(big.NewInt(n), big.NewInt(shares))).Int64()
			}
			if count&(count-1) == 0 && !slices.Equal(want, one) {
				t.Errorf("%d even shares: %v, not %v", count, want, one)
			}
			checkHead(t, q, keys, values, want)
			checkAll(t, q, keys, values, 4, want)
		}
	}
}

// 15.3: rows beside those that are handed in change nothing, nor what lies behind a row's end.
func TestOtherRows(t *testing.T) {
	for seed := range uint64(100) {
		keys, values := grid(mixed, 9, 6, seed), grid(mixed, 9, 6, seed+1000)
		q := ordinary(6, seed+2000)
		from, to := int(seed%4), int(seed%5)+4
		head, e := Head(q[:4], window(keys[from:to], 0, 4), window(values[from:to], 0, 4))
		all, f := All(q[:4], window(keys[from:to], 0, 4), window(values[from:to], 0, 4), 2)
		if e != api.OK || f != api.OK {
			t.Fatalf("errors %d, %d", e, f)
		}
		for i := range keys {
			for j := range q {
				if i < from || i >= to || j >= 4 {
					keys[i][j], values[i][j], q[j] = keys[i][j]/3+1000, -values[i][j]/3, q[j]+int64(j/4)
				}
			}
		}
		checkHead(t, q[:4], window(keys[from:to], 0, 4), window(values[from:to], 0, 4), head)
		checkAll(t, q[:4], window(keys[from:to], 0, 4), window(values[from:to], 0, 4), 2, all)
	}
}

// 15.3: a row that does not fit at all has no share: what it says changes nothing.
func TestNoShare(t *testing.T) {
	q, keys := []int64{65536}, rows{{0}, {-40 * 65536}, {0}}
	for _, n := range []int64{least, low, -1, 0, 1, high, most} {
		checkHead(t, q, keys, rows{{6}, {n}, {8}}, []int64{7})
	}
}

// roomy is rows with marked room behind their ends, and behind the list's.
func roomy(list rows) rows {
	all := make(rows, 0, len(list)+2)
	for _, row := range list {
		all = append(all, append(slices.Clone(row), 11, 22, 33)[:len(row)])
	}
	return append(all, []int64{44}, []int64{55})[:len(list)]
}

// whole is a copy of rows, with the room behind their ends.
func whole(list rows) rows {
	var all rows
	for _, row := range list[:cap(list)] {
		all = append(all, slices.Clone(row[:cap(row)]))
	}
	return all
}

// R4: what is handed in is as it was afterwards, with the room behind it; answers share nothing with it, nor with one another.
func TestNothingChanged(t *testing.T) {
	members := rows{{most, -5, least, 70000}, {3, 4, high, low}, {65536, 0, -65536, 1}}
	qs, keys, values := roomy(members[2:]), roomy(members), roomy(members)
	before := []rows{whole(qs), whole(keys), whole(values)}
	answers := func() rows {
		head, _ := Head(qs[0], keys, values)
		again, _ := Head(qs[0], keys, keys)
		alone, _ := Head(keys[0], keys[:1], keys[:1])
		one, _ := All(qs[0], keys, values, 1)
		two, _ := All(qs[0], keys, values, 2)
		four, _ := All(qs[0], keys[:1], values[:1], 4)
		_, short := Head(qs[0], keys, values[:2])
		_, odd := All(qs[0], keys, values, 3)
		_, none := All(qs[0], keys, values, 0)
		return rows{head, again, alone, one, two, four, {int64(short), int64(odd), int64(none)}}
	}
	first := answers()
	kept := make(rows, len(first))
	for i, list := range first {
		kept[i] = slices.Clone(list)
	}
	for i, list := range first {
		if !slices.Equal(list, kept[i]) {
			t.Errorf("answer %d shares memory with one ahead of it", i)
		}
		for j := range cap(list) {
			list[:cap(list)][j] = 99
		}
	}
	for i, list := range answers() {
		if !slices.Equal(list, kept[i]) {
			t.Errorf("answer %d: %v, then %v", i, kept[i], list)
		}
	}
	for i, list := range []rows{qs, keys, values} {
		if !slices.EqualFunc(whole(list), before[i], slices.Equal) {
			t.Errorf("changed: %v, not %v", whole(list), before[i])
		}
	}
}
