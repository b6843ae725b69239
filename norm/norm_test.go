package norm

import (
	"math"
	"math/big"
	"slices"
	"testing"

	"aviary/api"
	"aviary/curve"
)

const (
	least = math.MinInt64
	most  = math.MaxInt64
)

// mixed is numbers of all sizes, the same ones each time for a seed.
func mixed(count int, seed uint64) []int64 {
	list := make([]int64, count)
	state := 88172645463325252 ^ seed<<7
	for i := range list {
		state ^= state << 13
		state ^= state >> 7
		state ^= state << 17
		list[i] = int64(state) >> (state % 61)
	}
	return list
}

// mixedWeights is weights of all sizes, the same ones each time for a seed.
func mixedWeights(count int, seed uint64) []int8 {
	list := make([]int8, count)
	for i, n := range mixed(count, seed) {
		list[i] = int8(n)
	}
	return list
}

// repeat is a list of one member, count times.
func repeat[M any](m M, count int) []M {
	list := make([]M, count)
	for i := range list {
		list[i] = m
	}
	return list
}

// short is a row as it is told in an error: long ones by their first members.
func short[M any](list []M) []M {
	return list[:min(len(list), 12)]
}

func within(x *big.Int, low, high int64) *big.Int {
	if x.Cmp(big.NewInt(low)) < 0 {
		return big.NewInt(low)
	}
	if x.Cmp(big.NewInt(high)) > 0 {
		return big.NewInt(high)
	}
	return x
}

func number(x *big.Int) *big.Int {
	return within(x, api.MinNum, api.MaxNum)
}

func clamped(x int64) *big.Int {
	return number(big.NewInt(x))
}

// rounded is x divided by 2^bits, to the nearest whole number, a half away from 0.
func rounded(x *big.Int, bits uint) *big.Int {
	size := new(big.Int).Abs(x)
	size.Add(size, new(big.Int).Lsh(big.NewInt(1), bits-1)).Rsh(size, bits)
	if x.Sign() < 0 {
		size.Neg(size)
	}
	return size
}

// wantRms follows 5.1 with whole numbers without bounds, each sum brought into 64 bits.
func wantRms(x []int64, w []int8) []int64 {
	sum := new(big.Int)
	for _, n := range x {
		sum.Add(sum, new(big.Int).Mul(clamped(n), clamped(n)))
		sum = within(sum, least, most)
	}
	m := new(big.Int).Div(sum, big.NewInt(int64(len(x))))
	m = number(m.Add(rounded(m, 16), big.NewInt(1)))
	// The root of the quotient, cut off, is that of the quotient with its rest.
	r := new(big.Int).Div(new(big.Int).Lsh(big.NewInt(1), 48), m)
	r.Sqrt(r)
	list := make([]int64, len(x))
	for i, n := range x {
		p := number(rounded(new(big.Int).Mul(clamped(n), r), 16))
		p.Mul(p, big.NewInt(int64(w[i])))
		list[i] = number(rounded(p, 6)).Int64()
	}
	return list
}

// wantSoft follows 5.2 with whole numbers without bounds.
func wantSoft(x []int64) []int64 {
	top := int64(api.MinNum)
	for _, n := range x {
		top = max(top, clamped(n).Int64())
	}
	powers, sum := make([]int64, len(x)), new(big.Int)
	for i, n := range x {
		powers[i] = curve.Exp(clamped(n).Int64() - top)
		sum.Add(sum, big.NewInt(powers[i]))
	}
	for i, e := range powers {
		powers[i] = new(big.Int).Div(big.NewInt(e<<16), number(sum)).Int64()
	}
	return powers
}

// wantMean follows 5.3 with whole numbers without bounds.
func wantMean(l [][]int64) []int64 {
	list := make([]int64, len(l[0]))
	for i := range list {
		sum := new(big.Int)
		for _, row := range l {
			sum.Add(sum, clamped(row[i]))
		}
		list[i] = sum.Quo(sum, big.NewInt(int64(len(l)))).Int64()
	}
	return list
}

func checkRms(t *testing.T, x []int64, w []int8, want []int64) {
	t.Helper()
	if list, e := Rms(x, w); !slices.Equal(list, want) || e != api.OK {
		t.Errorf("Rms(%v, %v): %v, error %d, not %v", short(x), short(w), short(list), e, short(want))
	}
}

func checkSoft(t *testing.T, x, want []int64) {
	t.Helper()
	if list := Soft(x); !slices.Equal(list, want) {
		t.Errorf("Soft(%v): %v, not %v", short(x), short(list), short(want))
	}
}

func checkMean(t *testing.T, l [][]int64, want []int64) {
	t.Helper()
	if list, e := Mean(l); !slices.Equal(list, want) || e != api.OK {
		t.Errorf("Mean(%v): %v, error %d, not %v", short(l), short(list), e, short(want))
	}
}

// 5.1: Rms of ordinary rows, of noughts, of one member, of weights at their edges.
func TestRms(t *testing.T) {
	for _, c := range []struct {
		x    []int64
		w    []int8
		want []int64
	}{
		{[]int64{65536, 65536}, []int8{64, 64}, []int64{65535, 65535}},
		{[]int64{65536, -65536}, []int8{64, 64}, []int64{65535, -65535}},
		{[]int64{65536, -65536}, []int8{32, 16}, []int64{32768, -16384}},
		// The mean of the squares is 25 / 2, which is 12.5 and the least number more.
		{[]int64{3 * 65536, 4 * 65536}, []int8{64, 64}, []int64{55608, 74144}},
		{[]int64{0}, []int8{64}, []int64{0}},
		{[]int64{0, 0, 0}, []int8{64, -128, 127}, []int64{0, 0, 0}},
		// One divided by the root of the least number is 256.
		{[]int64{1}, []int8{64}, []int64{256}},
		{[]int64{-1}, []int8{64}, []int64{-256}},
		{[]int64{1, 0}, []int8{64, 64}, []int64{256, 0}},
		{[]int64{65536}, []int8{64}, []int64{65535}},
		{[]int64{-65536}, []int8{64}, []int64{-65535}},
		{[]int64{65536, 65536, 65536, 65536}, []int8{-128, 0, 127, 1}, []int64{-131070, 0, 130046, 1024}},
		{[]int64{-65536, -65536, -65536, -65536}, []int8{-128, 0, 127, 1}, []int64{131070, 0, -130046, -1024}},
	} {
		checkRms(t, c.x, c.w, c.want)
		if want := wantRms(c.x, c.w); !slices.Equal(want, c.want) {
			t.Errorf("%v, %v: %v told, %v reckoned", c.x, c.w, c.want, want)
		}
	}
}

// 5.1: what comes behind the weight is rounded, a half away from 0.
func TestRmsRounds(t *testing.T) {
	// The product is 256 or -256 each time.
	for _, c := range []struct {
		w    int8
		want int64
	}{{64, 256}, {1, 4}, {-1, -4}, {127, 508}, {-128, -512}, {0, 0}} {
		checkRms(t, []int64{1, -1}, []int8{c.w, c.w}, []int64{c.want, -c.want})
	}
	// The product is 65535 each time: with the weight 32 it ends on a half.
	checkRms(t, []int64{65536, -65536}, []int8{32, 32}, []int64{32768, -32768})
	checkRms(t, []int64{65536, -65536}, []int8{-32, -32}, []int64{-32768, 32768})
	checkRms(t, []int64{65536, -65536}, []int8{31, 33}, []int64{31744, -33791})
}

// 5.1: the sum of squares is divided downwards, then rounded by Shift. (A quotient that was rounded, or not cut off ahead of Shift, would come to a half in the first rows of each kind.)
func TestRmsUneven(t *testing.T) {
	for _, c := range []struct {
		x []int64
		m int64
	}{
		{[]int64{362, 4, 2, 2}, 1},        // 4 times 32767
		{[]int64{362, 5, 1, 0}, 1},        // and 2 more
		{[]int64{-362, 5, -1, 1}, 1},      // and 3 more
		{[]int64{256, -256, 0, 0}, 2},     // 4 times 32768
		{[]int64{627, 9, 2, 1}, 2},        // 4 times 98303, and 3 more
		{[]int64{512, 256, 256, 0}, 3},    // 4 times 98304
		{[]int64{404, 23, 9, 3, 2}, 1},    // 5 times 32767, and 4 more
		{[]int64{404, 24, 4, 4, 4}, 2},    // 5 times 32768
		{[]int64{905, 13, 2, 1, 0}, 3},    // 5 times 163839, and 4 more
		{[]int64{905, 13, 2, 1, 1}, 4},    // 5 times 163840
		{[]int64{65536, 65536, 0}, 43692}, // 43690 and two thirds
		{[]int64{65536, 0, 0}, 21846},     // 21845 and a third
	} {
		w := repeat[int8](64, len(c.x))
		if got := meanSquare(c.x); got != c.m {
			t.Errorf("%v: the mean square %d, not %d", c.x, got, c.m)
		}
		checkRms(t, c.x, w, wantRms(c.x, w))
	}
	// One divided by the roots of the least numbers, 1 and 2, is 256 and 181.02.
	checkRms(t, []int64{-362, 5, -1, 1}, repeat[int8](64, 4), []int64{-92672, 1280, -256, 256})
	checkRms(t, []int64{256, -256, 0, 0}, repeat[int8](64, 4), []int64{46341, -46341, 0, 0})
}

// 5.1: numbers outside of 32 bits are clamped.
func TestRmsClamps(t *testing.T) {
	w := []int8{64, 127, -128}
	for _, n := range []int64{api.MaxNum + 1, 1 << 32, 1<<32 + 5, 1 << 62, most} {
		checkRms(t, []int64{n, 5, -n}, w, wantRms([]int64{api.MaxNum, 5, -n}, w))
		checkRms(t, []int64{n}, w[:1], []int64{11862016})
	}
	for _, n := range []int64{api.MinNum - 1, -1 << 32, -1<<32 - 5, -1 << 62, least} {
		checkRms(t, []int64{n, 5, n}, w, wantRms([]int64{api.MinNum, 5, api.MinNum}, w))
		checkRms(t, []int64{n}, w[:1], []int64{-11862016})
	}
}

// 5.1: a sum of squares that leaves 64 bits stays at their edge.
func TestRmsLongSum(t *testing.T) {
	for _, count := range []int{2, 3, 4, 5, 8, 100} {
		x, w := repeat[int64](api.MinNum, count), repeat[int8](64, count)
		checkRms(t, x, w, repeat[int64](-11862016, count))
	}
	// Of 2^17 members the edge's share lies within 32 bits, and their mean square above.
	count := 1 << 17
	x, w := repeat[int64](1<<30, count), repeat[int8](64, count)
	if m := meanSquare(x); m != 1<<30+1 {
		t.Errorf("the mean square %d", m)
	}
	checkRms(t, x, w, repeat[int64](511<<14, count))
	x[count/2], w[0] = least, -128
	checkRms(t, x, w, wantRms(x, w))
}

// 5.1: the mean square is clamped, and the answer. (2^28 members would be needed for a product that leaves 32 bits with its weight; so it is weighed by itself here.)
func TestRmsEdges(t *testing.T) {
	if m := meanSquare([]int64{api.MaxNum}); m != api.MaxNum {
		t.Errorf("the mean square %d", m)
	}
	for _, c := range []struct {
		n    int64
		w    int8
		want int64
	}{
		{api.MaxNum, 64, api.MaxNum}, {api.MaxNum, 65, api.MaxNum}, {api.MaxNum, 127, api.MaxNum}, {api.MaxNum, -128, api.MinNum}, {api.MaxNum, -64, -api.MaxNum},
		{api.MinNum, 64, api.MinNum}, {api.MinNum, 65, api.MinNum}, {api.MinNum, 127, api.MinNum}, {api.MinNum, -128, api.MaxNum}, {api.MinNum, -64, api.MaxNum},
	} {
		if got := weighed(c.n, c.w); got != c.want {
			t.Errorf("%d with the weight %d: %d, not %d", c.n, c.w, got, c.want)
		}
	}
	// One great member among noughts has a great share.
	count := 1 << 16
	x, w := make([]int64, count), repeat[int8](127, count)
	x[count-1] = api.MinNum
	checkRms(t, x, w, wantRms(x, w))
	x[count-1], w[count-1] = api.MaxNum, -128
	checkRms(t, x, w, wantRms(x, w))
}

// 5.1: Rms of rows of all kinds, held against whole numbers without bounds.
func TestRmsMixed(t *testing.T) {
	for seed := range uint64(1000) {
		count := int(seed%40) + 1
		x, w := mixed(count, seed), mixedWeights(count, seed+1000)
		checkRms(t, x, w, wantRms(x, w))
		for i := range x {
			x[i] %= 1 << (10 + seed%20)
		}
		checkRms(t, x, w, wantRms(x, w))
	}
}

// 5.1: an empty row, and lengths that are not the same, are refused, with nothing beside the error.
func TestRmsShape(t *testing.T) {
	for m := range 5 {
		for n := range 5 {
			if m == n && m > 0 {
				continue
			}
			if list, e := Rms(repeat[int64](65536, m), repeat[int8](64, n)); len(list) != 0 || e != api.ErrShape {
				t.Errorf("Rms of %d and %d members: %v, error %d", m, n, list, e)
			}
		}
	}
	if list, e := Rms(nil, nil); len(list) != 0 || e != api.ErrShape {
		t.Errorf("Rms of nothing: %v, error %d", list, e)
	}
}

// 5.2: Soft of ordinary rows, of nothing, of one member, of the same members, of members far apart.
func TestSoft(t *testing.T) {
	for _, c := range []struct{ x, want []int64 }{
		{nil, nil},
		{[]int64{}, nil},
		{[]int64{0}, []int64{65536}},
		{[]int64{-9}, []int64{65536}},
		{[]int64{most}, []int64{65536}},
		{[]int64{least}, []int64{65536}},
		{[]int64{0, 0}, []int64{32768, 32768}},
		{[]int64{-77, -77}, []int64{32768, 32768}},
		{[]int64{5, 5, 5}, []int64{21845, 21845, 21845}},
		{[]int64{1 << 20, 1 << 20, 1 << 20, 1 << 20}, []int64{16384, 16384, 16384, 16384}},
		{[]int64{0, 20 * 65536}, []int64{0, 65536}},
		{[]int64{20 * 65536, 0, 0}, []int64{65536, 0, 0}},
		{[]int64{-20 * 65536, 20 * 65536, -20 * 65536, 20 * 65536}, []int64{0, 32768, 0, 32768}},
		{[]int64{api.MinNum, api.MaxNum}, []int64{0, 65536}},
		{[]int64{api.MaxNum, api.MinNum, api.MaxNum}, []int64{32768, 0, 32768}},
	} {
		checkSoft(t, c.x, c.want)
	}
	// One above the other by 1: the powers are 65536 and Exp(-65536).
	e := curve.Exp(-65536)
	checkSoft(t, []int64{65536, 0}, []int64{65536 * 65536 / (65536 + e), e * 65536 / (65536 + e)})
	checkSoft(t, []int64{-65536, 0, -65536}, []int64{e * 65536 / (65536 + 2*e), 65536 * 65536 / (65536 + 2*e), e * 65536 / (65536 + 2*e)})
}

// 5.2: numbers outside of 32 bits are clamped ahead of their difference.
func TestSoftClamps(t *testing.T) {
	high, low := int64(api.MaxNum), int64(api.MinNum)
	checkSoft(t, []int64{most, high}, []int64{32768, 32768})
	checkSoft(t, []int64{least, low}, []int64{32768, 32768})
	checkSoft(t, []int64{most, least}, []int64{65536, 0})
	checkSoft(t, []int64{least, most, most, least}, []int64{0, 32768, 32768, 0})
	for _, n := range []int64{high + 1, 1 << 32, 1<<32 + 5, 1 << 62, most} {
		checkSoft(t, []int64{n, high - 65536}, wantSoft([]int64{high, high - 65536}))
		checkSoft(t, []int64{high - 65536, n, n}, wantSoft([]int64{high - 65536, high, high}))
	}
	for _, n := range []int64{low - 1, -1 << 32, -1<<32 - 5, -1 << 62, least} {
		checkSoft(t, []int64{n, low + 65536}, wantSoft([]int64{low, low + 65536}))
		checkSoft(t, []int64{low + 65536, n, n}, wantSoft([]int64{low + 65536, low, low}))
	}
}

// 5.2: a sum of powers that passes 32 bits is clamped by Div.
func TestSoftLongSum(t *testing.T) {
	for _, c := range []struct {
		count int
		want  int64
	}{{32767, 2}, {32768, 2}, {32769, 2}, {65536, 2}, {100000, 2}} {
		checkSoft(t, repeat[int64](-3, c.count), repeat(c.want, c.count))
	}
	// The sum is 2^32 without the clamp: each share would be 1, and nothing where it wrapped round.
	x := repeat[int64](0, 1<<16)
	x[7] = -65536
	checkSoft(t, x, wantSoft(x))
}

// 5.2: Soft of rows of all kinds, held against whole numbers without bounds.
func TestSoftMixed(t *testing.T) {
	for seed := range uint64(1000) {
		x := mixed(int(seed%40), seed)
		checkSoft(t, x, wantSoft(x))
		for i := range x {
			x[i] %= 1 << (12 + seed%10)
		}
		checkSoft(t, x, wantSoft(x))
	}
}

// 5.3: Mean of rows, of one row, of rows of no members; it is divided towards 0.
func TestMean(t *testing.T) {
	high, low := int64(api.MaxNum), int64(api.MinNum)
	for _, c := range []struct {
		l    [][]int64
		want []int64
	}{
		{[][]int64{nil}, nil},
		{[][]int64{{}}, nil},
		{[][]int64{nil, {}, nil}, nil},
		{[][]int64{{7}}, []int64{7}},
		{[][]int64{{7, -7, 0}}, []int64{7, -7, 0}},
		{[][]int64{{1, 2}, {3, 4}}, []int64{2, 3}},
		{[][]int64{{1, -1}, {0, 0}}, []int64{0, 0}},
		{[][]int64{{3, -3}, {0, 0}}, []int64{1, -1}},
		{[][]int64{{1, -1}, {1, -1}, {0, 0}}, []int64{0, 0}},
		{[][]int64{{5, -5}, {0, 0}, {0, 0}}, []int64{1, -1}},
		{[][]int64{{-1}, {-1}, {-3}}, []int64{-1}},
		{[][]int64{{-2}, {-2}, {-4}}, []int64{-2}},
		// The rest is of the sum, not of each member.
		{[][]int64{{1}, {1}, {1}}, []int64{1}},
		{[][]int64{{-1}, {-1}, {-1}}, []int64{-1}},
		// Sums leave 32 bits on the way.
		{[][]int64{{high, low}, {high, low}, {high, low}}, []int64{high, low}},
		{[][]int64{{high, low}, {low, high}}, []int64{0, 0}},
		{[][]int64{{high, low}, {high - 1, low + 1}}, []int64{high - 1, low + 1}},
		// Members are clamped.
		{[][]int64{{most, least, high + 1, low - 1}}, []int64{high, low, high, low}},
		{[][]int64{{most, least}, {0, 0}}, []int64{high / 2, low / 2}},
		{[][]int64{{most, least}, {least, most}, {-5, 5}}, []int64{-2, 1}},
	} {
		checkMean(t, c.l, c.want)
	}
}

// 5.3: sums stay within 64 bits on the way. (2^32 rows would be needed for one that leaves them, more than the document's bound; so the sum begins near the edge here.)
func TestMeanLongSum(t *testing.T) {
	sums := []int64{most - 5, least + 5, most, least, most - 5, 3}
	addRow(sums, []int64{7, -7, -1, 1, most, most})
	if want := []int64{most, least, most - 1, least + 1, most, 3 + api.MaxNum}; !slices.Equal(sums, want) {
		t.Errorf("%v, not %v", sums, want)
	}
	row := []int64{api.MinNum, api.MaxNum, least, most}
	checkMean(t, repeat(row, 1<<20), []int64{api.MinNum, api.MaxNum, api.MinNum, api.MaxNum})
}

// 5.3: Mean of rows of all kinds, held against whole numbers without bounds.
func TestMeanMixed(t *testing.T) {
	for seed := range uint64(500) {
		l := make([][]int64, seed%9+1)
		for i := range l {
			l[i] = mixed(int(seed%7), seed*10+uint64(i))
		}
		checkMean(t, l, wantMean(l))
	}
}

// 5.3: no rows, and rows whose lengths are not the same, are refused, with nothing beside the error.
func TestMeanShape(t *testing.T) {
	for _, l := range [][][]int64{
		nil, {},
		{{1}, {1, 2}}, {{1, 2}, {1}}, {nil, {1}}, {{1}, nil}, {{}, {1}}, {{1}, {}},
		{{1, 2}, {1, 2}, {1}}, {{1, 2}, {1}, {1, 2}}, {{1}, {1, 2}, {1, 2}}, {{1, 2}, {1, 2}, {1, 2, 3}}, {{1}, {1}, nil},
	} {
		if list, e := Mean(l); len(list) != 0 || e != api.ErrShape {
			t.Errorf("Mean(%v): %v, error %d", l, list, e)
		}
	}
}

// 5.4: shares are from 0 to 65536, together at most that; the greater member has no lesser share.
func TestShares(t *testing.T) {
	for seed := range uint64(1000) {
		x := mixed(int(seed%60)+1, seed)
		if seed%3 > 0 {
			for i := range x {
				x[i] %= 1 << (4 + seed%17)
			}
		}
		list := Soft(x)
		var sum int64
		for i, n := range list {
			sum += n
			if n < 0 || n > 65536 {
				t.Fatalf("Soft(%v): a share of %d", x, n)
			}
			for j := range i {
				if x[i] > x[j] && n < list[j] || x[j] > x[i] && list[j] < n || x[i] == x[j] && n != list[j] {
					t.Fatalf("Soft(%v): %d has %d, %d has %d", x, x[i], n, x[j], list[j])
				}
			}
		}
		if sum > 65536 {
			t.Fatalf("Soft(%v): %d together", x, sum)
		}
	}
}

// 5.4: the same number more for all members changes nothing, where nothing is clamped.
func TestSoftMoved(t *testing.T) {
	for seed := range uint64(300) {
		x := mixed(int(seed%20)+1, seed)
		for i := range x {
			x[i] %= 1 << 20
		}
		want := Soft(x)
		for _, more := range []int64{1, -1, 65536, -65536, 1 << 30, -1 << 30, api.MaxNum - slices.Max(x), api.MinNum - slices.Min(x)} {
			moved := slices.Clone(x)
			for i := range moved {
				moved[i] += more
			}
			checkSoft(t, moved, want)
		}
	}
}

// 5.4: Mean of one row is that row, clamped.
func TestMeanOfOneRow(t *testing.T) {
	for seed := range uint64(200) {
		x := mixed(int(seed%20), seed)
		want := make([]int64, len(x))
		for i, n := range x {
			want[i] = clamped(n).Int64()
		}
		checkMean(t, [][]int64{x}, want)
	}
}

// roomy is a list with marked room behind its end.
func roomy[M int8 | int64](list ...M) []M {
	all := append(slices.Clone(list), 11, 22, 33)
	return all[:len(list)]
}

// R4: rows that are handed in are as they were afterwards, with the room behind them; answers share nothing with them.
func TestNothingChanged(t *testing.T) {
	x, y := roomy[int64](most, -5, least), roomy[int64](3, 4, 5)
	w, l := roomy[int8](64, -128, 127), [][]int64{x, y, x, nil, {9}}
	answers := func() [][]int64 {
		rms, _ := Rms(x, w)
		mean, _ := Mean(l[:3])
		one, _ := Mean(l[1:2])
		return [][]int64{rms, Soft(x), Soft(y), mean, one}
	}
	first := answers()
	kept := make([][]int64, len(first))
	for i, list := range first {
		kept[i] = slices.Clone(list)
		for j := range cap(list) {
			list[:cap(list)][j] = 99
		}
	}
	for i, list := range answers() {
		if !slices.Equal(list, kept[i]) {
			t.Errorf("answer %d: %v, then %v", i, kept[i], list)
		}
	}
	if !slices.Equal(x[:6], []int64{most, -5, least, 11, 22, 33}) || !slices.Equal(y[:6], []int64{3, 4, 5, 11, 22, 33}) || !slices.Equal(w[:6], []int8{64, -128, 127, 11, 22, 33}) {
		t.Errorf("changed: %v, %v, %v", x[:6], y[:6], w[:6])
	}
	if &l[0][0] != &x[0] || &l[1][0] != &y[0] || &l[2][0] != &x[0] || l[3] != nil || !slices.Equal(l[4], []int64{9}) {
		t.Errorf("the list of rows is changed: %v", l)
	}
}
