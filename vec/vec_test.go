package vec

import (
	"math"
	"math/big"
	"slices"
	"testing"

	"aviary/api"
	"aviary/sat"
)

const (
	least    = math.MinInt64
	greatest = math.MaxInt64
)

// mixed is numbers of all sizes, the same ones each time for a seed.
func mixed(count int, seed uint64) []int64 {
	list := make([]int64, count)
	state := 88172645463325252 ^ seed<<7
	for i := range list {
		state ^= state << 13
		state ^= state >> 7
		state ^= state << 17
		list[i] = int64(state) >> (state % 61)
	}
	return list
}

// mixedWeights is weights of all sizes, the same ones each time for a seed.
func mixedWeights(count int, seed uint64) []int8 {
	list := make([]int8, count)
	for i, n := range mixed(count, seed) {
		list[i] = int8(n)
	}
	return list
}

// repeat is a list of one member, count times.
func repeat[M any](m M, count int) []M {
	list := make([]M, count)
	for i := range list {
		list[i] = m
	}
	return list
}

func wide[M int8 | int64](row []M) []int64 {
	list := make([]int64, len(row))
	for i, m := range row {
		list[i] = int64(m)
	}
	return list
}

func within(x *big.Int, low, high int64) *big.Int {
	if x.Cmp(big.NewInt(low)) < 0 {
		return big.NewInt(low)
	}
	if x.Cmp(big.NewInt(high)) > 0 {
		return big.NewInt(high)
	}
	return x
}

func clamped(x int64) *big.Int {
	return within(big.NewInt(x), api.MinNum, api.MaxNum)
}

// rounded is x divided by 2^bits, to the nearest whole number, a half away from 0.
func rounded(x *big.Int, bits uint) *big.Int {
	size := new(big.Int).Abs(x)
	size.Add(size, new(big.Int).Lsh(big.NewInt(1), bits-1)).Rsh(size, bits)
	if x.Sign() < 0 {
		size.Neg(size)
	}
	return size
}

// wantSum follows 4.1 with whole numbers without bounds, each sum brought into 64 bits.
func wantSum(a, b []int64, bits uint) int64 {
	sum := new(big.Int)
	for i := range a {
		sum.Add(sum, new(big.Int).Mul(clamped(a[i]), clamped(b[i])))
		sum = within(sum, least, greatest)
	}
	return within(rounded(sum, bits), api.MinNum, api.MaxNum).Int64()
}

// freeSum is the rounded sum of the products, whatever its size on the way.
func freeSum(a, b []int64, bits uint) int64 {
	sum := new(big.Int)
	for i := range a {
		sum.Add(sum, new(big.Int).Mul(clamped(a[i]), clamped(b[i])))
	}
	return within(rounded(sum, bits), api.MinNum, api.MaxNum).Int64()
}

func checkDot(t *testing.T, w []int8, x []int64, want int64) {
	t.Helper()
	if n, e := Dot(w, x); n != want || e != api.OK {
		t.Errorf("Dot(%v, %v): %d, error %d, not %d", w, x, n, e, want)
	}
}

func checkInner(t *testing.T, a, b []int64, want int64) {
	t.Helper()
	if n, e := Inner(a, b); n != want || e != api.OK {
		t.Errorf("Inner(%v, %v): %d, error %d, not %d", a, b, n, e, want)
	}
}

func checkMat(t *testing.T, w []int8, rows int, x, want []int64) {
	t.Helper()
	if list, e := Mat(w, rows, x); !slices.Equal(list, want) || e != api.OK {
		t.Errorf("Mat(%v, %d, %v): %v, error %d, not %v", w, rows, x, list, e, want)
	}
}

// 4.1: Dot of ordinary rows, of empty ones, of weights and numbers at their edges.
func TestDot(t *testing.T) {
	for _, c := range []struct {
		w    []int8
		x    []int64
		want int64
	}{
		{[]int8{64, -64}, []int64{65536, 32768}, 32768},
		{nil, nil, 0},
		{[]int8{}, nil, 0},
		{nil, []int64{}, 0},
		{[]int8{64}, []int64{7}, 7},
		{[]int8{64}, []int64{-7}, -7},
		{[]int8{0, 0}, []int64{greatest, least}, 0},
		{[]int8{127}, []int64{65536}, 130048},
		{[]int8{-128}, []int64{65536}, -131072},
		{[]int8{1, 2, 3}, []int64{640, 6400, 64000}, 10 + 200 + 3000},
		// A product above 32 bits is not brought into them ahead of the sum.
		{[]int8{127, -127}, []int64{api.MaxNum, api.MaxNum - 64}, 127},
		{[]int8{-128, 127}, []int64{api.MinNum, api.MinNum}, 1 << 25},
		// The answer is clamped.
		{[]int8{127}, []int64{api.MaxNum}, api.MaxNum},
		{[]int8{-128}, []int64{api.MaxNum}, api.MinNum},
		{[]int8{127}, []int64{api.MinNum}, api.MinNum},
		{[]int8{-128}, []int64{api.MinNum}, api.MaxNum},
		{[]int8{64}, []int64{api.MaxNum}, api.MaxNum},
		{[]int8{64}, []int64{api.MinNum}, api.MinNum},
		{[]int8{-64}, []int64{api.MinNum}, api.MaxNum},
		{[]int8{64, 64}, []int64{api.MaxNum, 1}, api.MaxNum},
		{[]int8{64, 64}, []int64{api.MinNum, -1}, api.MinNum},
		{[]int8{64, 31}, []int64{api.MaxNum, 1}, api.MaxNum},
	} {
		checkDot(t, c.w, c.x, c.want)
	}
}

// 4.1: Dot rounds its sum, once, at the end, a half away from 0.
func TestDotRounds(t *testing.T) {
	for _, c := range []struct{ n, want int64 }{
		{31, 0}, {32, 1}, {33, 1}, {63, 1}, {64, 1}, {95, 1}, {96, 2}, {97, 2},
		{-31, 0}, {-32, -1}, {-33, -1}, {-63, -1}, {-64, -1}, {-95, -1}, {-96, -2}, {-97, -2},
	} {
		checkDot(t, []int8{1}, []int64{c.n}, c.want)
		checkDot(t, []int8{-1}, []int64{-c.n}, c.want)
	}
	checkDot(t, []int8{16, 16}, []int64{1, 1}, 1)
	checkDot(t, []int8{-16, -16}, []int64{1, 1}, -1)
	checkDot(t, []int8{32, 32}, []int64{1, 1}, 1)
	checkDot(t, []int8{31, 31}, []int64{1, 1}, 1)
	checkDot(t, []int8{32, -1}, []int64{1, 1}, 0)
}

// 4.1: what lies outside of 32 bits is clamped.
func TestDotClamps(t *testing.T) {
	for _, x := range []int64{api.MaxNum + 1, 1 << 32, 1<<32 + 5, 1 << 62, greatest} {
		checkDot(t, []int8{1}, []int64{x}, 33554432)
		checkDot(t, []int8{32}, []int64{x}, 1<<30)
		checkDot(t, []int8{64, -64}, []int64{x, api.MaxNum - 3}, 3)
	}
	for _, x := range []int64{api.MinNum - 1, -1 << 32, -1<<32 - 5, -1 << 62, least} {
		checkDot(t, []int8{1}, []int64{x}, -33554432)
		checkDot(t, []int8{32}, []int64{x}, -1<<30)
		checkDot(t, []int8{64, -64}, []int64{x, api.MinNum + 3}, -3)
	}
}

// 4.1: a sum of weights and numbers that leaves 64 bits stays at their edge. (It takes 2^25 of the greatest products.)
func TestDotLongSum(t *testing.T) {
	x := repeat[int64](api.MinNum, 1<<25)
	w := repeat[int8](-128, 1<<25)
	if n, e := Dot(w, x); n != api.MaxNum || e != api.OK {
		t.Errorf("a sum of 2^63: %d, error %d", n, e)
	}
	if list, e := Mat(w, 1, x); !slices.Equal(list, []int64{api.MaxNum}) || e != api.OK {
		t.Errorf("a row with the sum 2^63: %d, error %d", list, e)
	}
}

// 4.1: Dot of rows of all kinds, held against whole numbers without bounds.
func TestDotMixed(t *testing.T) {
	for seed := range uint64(300) {
		count := int(seed % 40)
		w, x := mixedWeights(count, seed), mixed(count, seed+1000)
		checkDot(t, w, x, wantSum(wide(w), x, 6))
	}
}

// 4.1: Mat is Dot of each row, one behind the other.
func TestMat(t *testing.T) {
	for _, c := range []struct {
		w    []int8
		rows int
		x    []int64
		want []int64
	}{
		{[]int8{64, 0, 0, 64}, 2, []int64{5, 7}, []int64{5, 7}},
		{[]int8{0, 64, 64, 0}, 2, []int64{5, 7}, []int64{7, 5}},
		{[]int8{64, -64, 32, 16, 1, 127}, 3, []int64{640, 64}, []int64{576, 336, 137}},
		{[]int8{64, -64, 32, 16, 1, 127}, 2, []int64{640, 64, -64}, []int64{544, 34}},
		{[]int8{1, 32, -32, 127, -128, 0}, 6, []int64{1}, []int64{0, 1, -1, 2, -2, 0}},
		{[]int8{64, -64, 127, -128}, 4, []int64{greatest}, []int64{api.MaxNum, -api.MaxNum, api.MaxNum, api.MinNum}},
		{[]int8{64, -64, 127, -128}, 4, []int64{least}, []int64{api.MinNum, api.MaxNum, api.MinNum, api.MaxNum}},
		{nil, 0, []int64{5, 7}, nil},
		{[]int8{}, 0, []int64{5}, []int64{}},
	} {
		checkMat(t, c.w, c.rows, c.x, c.want)
	}
}

// 4.1: Mat of matrices of all kinds, held against whole numbers without bounds.
func TestMatMixed(t *testing.T) {
	for seed := range uint64(200) {
		rows, width := int(seed%9), int(seed%7)+1
		w, x := mixedWeights(rows*width, seed), mixed(width, seed+1000)
		want := make([]int64, rows)
		for i := range rows {
			want[i] = wantSum(wide(w[i*width:(i+1)*width]), x, 6)
		}
		checkMat(t, w, rows, x, want)
	}
}

// 4.1: Inner of ordinary rows, of empty ones, of numbers at their edges.
func TestInner(t *testing.T) {
	for _, c := range []struct {
		a, b []int64
		want int64
	}{
		{nil, nil, 0},
		{[]int64{}, nil, 0},
		{[]int64{65536}, []int64{7}, 7},
		{[]int64{98304}, []int64{98304}, 147456},
		{[]int64{65536, 131072, -65536}, []int64{1, 2, 3}, 2},
		// A product above 32 bits is not brought into them ahead of the sum.
		{[]int64{api.MaxNum, -api.MaxNum}, []int64{65536 * 3, 65536*3 - 1}, 32768},
		{[]int64{api.MaxNum, api.MaxNum}, []int64{api.MaxNum, -api.MaxNum}, 0},
		// The answer is clamped.
		{[]int64{api.MaxNum}, []int64{65536}, api.MaxNum},
		{[]int64{api.MinNum}, []int64{65536}, api.MinNum},
		{[]int64{api.MinNum}, []int64{-65536}, api.MaxNum},
		{[]int64{api.MaxNum}, []int64{api.MaxNum}, api.MaxNum},
		{[]int64{api.MaxNum}, []int64{api.MinNum}, api.MinNum},
		{[]int64{api.MinNum}, []int64{api.MinNum}, api.MaxNum},
	} {
		checkInner(t, c.a, c.b, c.want)
		checkInner(t, c.b, c.a, c.want)
	}
}

// 4.1: Inner rounds its sum, once, at the end, a half away from 0.
func TestInnerRounds(t *testing.T) {
	for _, c := range []struct{ n, want int64 }{
		{32767, 0}, {32768, 1}, {32769, 1}, {98303, 1}, {98304, 2}, {98305, 2},
		{-32767, 0}, {-32768, -1}, {-32769, -1}, {-98303, -1}, {-98304, -2}, {-98305, -2},
	} {
		checkInner(t, []int64{1}, []int64{c.n}, c.want)
		checkInner(t, []int64{c.n}, []int64{1}, c.want)
		checkInner(t, []int64{-1}, []int64{-c.n}, c.want)
	}
	checkInner(t, []int64{1, 1}, []int64{16384, 16384}, 1)
	checkInner(t, []int64{1, 1}, []int64{-16384, -16384}, -1)
	checkInner(t, []int64{1, 1}, []int64{32768, 32768}, 1)
	checkInner(t, []int64{1, 1}, []int64{32768, -1}, 0)
}

// 4.1: both members of a product are clamped ahead of it.
func TestInnerClamps(t *testing.T) {
	for _, x := range []int64{api.MaxNum + 1, 1 << 32, 1<<32 + 5, 1 << 62, greatest} {
		checkInner(t, []int64{x}, []int64{16384}, 1<<29)
		checkInner(t, []int64{16384}, []int64{x}, 1<<29)
		checkInner(t, []int64{x}, []int64{x}, api.MaxNum)
		checkInner(t, []int64{x, api.MaxNum - 3}, []int64{65536, -65536}, 3)
		checkInner(t, []int64{65536, -65536}, []int64{x, api.MaxNum - 3}, 3)
	}
	for _, x := range []int64{api.MinNum - 1, -1 << 32, -1<<32 - 5, -1 << 62, least} {
		checkInner(t, []int64{x}, []int64{16384}, -1<<29)
		checkInner(t, []int64{16384}, []int64{x}, -1<<29)
		checkInner(t, []int64{x}, []int64{x}, api.MaxNum)
		checkInner(t, []int64{x, api.MinNum + 3}, []int64{65536, -65536}, -3)
		checkInner(t, []int64{65536, -65536}, []int64{x, api.MinNum + 3}, -3)
	}
}

// 4.1: a sum that leaves 64 bits stays at their edge, and what comes behind it is added to that edge.
func TestInnerLongSum(t *testing.T) {
	low, high := int64(api.MinNum), int64(api.MaxNum)
	checkInner(t, []int64{low, low}, []int64{low, low}, high)
	checkInner(t, []int64{low, low, low}, []int64{low, low, low}, high)
	checkInner(t, []int64{low, low, low}, []int64{high, high, high}, low)
	// From 2^63 - 1 down by less than 2^63 twice: 2^32 - 1 are left, with 16 bits behind the point.
	checkInner(t, []int64{low, low, low, low}, []int64{low, low, high, high}, 1<<16)
	// In the other order no sum leaves 64 bits.
	checkInner(t, []int64{low, low, low, low}, []int64{low, high, low, high}, 1<<16)
	// What was above 2^63 - 1 is gone: down by 2^63 leaves 2^32 - 1 all the same.
	checkInner(t, []int64{low, low, low, low, low}, []int64{low, low, low, high, high}, 1<<16)
	// In the other orders it is not.
	checkInner(t, []int64{low, low, low, low, low}, []int64{low, high, low, high, low}, high)
	checkInner(t, []int64{low, low, low, low, low}, []int64{high, high, low, low, low}, high)
	// Below: from -2^63 up by 2^63 - 2^33 + 2.
	checkInner(t, []int64{low, low, low, high, high}, []int64{high, high, high, high, high}, -1<<17)
	checkInner(t, []int64{high, high, low, low, low}, []int64{high, high, high, high, high}, low)
}

// 4.1: Inner of rows of all kinds, held against whole numbers without bounds.
func TestInnerMixed(t *testing.T) {
	for seed := range uint64(300) {
		count := int(seed % 40)
		a, b := mixed(count, seed), mixed(count, seed+1000)
		checkInner(t, a, b, wantSum(a, b, 16))
		for i := range a {
			a[i], b[i] = a[i]%(1<<28), b[i]%(1<<28)
		}
		checkInner(t, a, b, wantSum(a, b, 16))
	}
}

// 4.1, 4.2: lengths that are not the same are refused, with nothing beside the error.
func TestLengths(t *testing.T) {
	for m := range 5 {
		for n := range 5 {
			if m == n {
				continue
			}
			if got, e := Dot(repeat[int8](64, m), repeat[int64](65536, n)); got != 0 || e != api.ErrShape {
				t.Errorf("Dot of %d and %d members: %d, error %d", m, n, got, e)
			}
			if got, e := Inner(repeat[int64](65536, m), repeat[int64](65536, n)); got != 0 || e != api.ErrShape {
				t.Errorf("Inner of %d and %d members: %d, error %d", m, n, got, e)
			}
			if got, e := Add(repeat[int64](65536, m), repeat[int64](65536, n)); len(got) != 0 || e != api.ErrShape {
				t.Errorf("Add of %d and %d members: %d, error %d", m, n, got, e)
			}
		}
	}
}

// 4.1: a matrix that does not fit is refused, with nothing beside the error.
func TestMatShape(t *testing.T) {
	for _, c := range []struct{ members, rows, width int }{
		{0, 0, 0}, {0, 1, 0}, {4, 2, 0}, {4, 0, 0}, {4, -1, 0}, {0, math.MaxInt, 0},
		{0, -1, 1}, {4, -1, 2}, {4, -2, 2}, {2, -1, 2}, {0, math.MinInt, 2}, {0, -math.MaxInt, 1}, {0, math.MinInt, 4},
		{0, 1, 1}, {1, 0, 1}, {4, 0, 2}, {0, 2, 2},
		{3, 2, 2}, {5, 2, 2}, {4, 1, 2}, {4, 3, 2}, {2, 2, 2}, {6, 2, 2}, {1, 1, 2}, {3, 1, 2},
		{0, math.MaxInt, 1}, {0, math.MaxInt, 2}, {4, math.MaxInt, 3},
		// Rows times width wrap round to just the members that are there.
		{0, 1 << 62, 4}, {0, 1 << 61, 8}, {4, 1<<62 + 1, 4}, {8, 1<<62 + 2, 4}, {0, 1 << 60, 16}, {16, 1<<60 + 1, 16},
		{0, -1 << 62, 4}, {4, -1<<62 + 1, 4}, {2, -1<<63 + 1, 2}, {0, -1 << 63, 2},
	} {
		if list, e := Mat(repeat[int8](64, c.members), c.rows, repeat[int64](65536, c.width)); len(list) != 0 || e != api.ErrShape {
			t.Errorf("Mat of %d weights in %d rows of %d: %v, error %d", c.members, c.rows, c.width, list, e)
		}
	}
}

// 4.2: Add clamps each member, and each sum.
func TestAdd(t *testing.T) {
	for _, c := range []struct{ a, b, want []int64 }{
		{nil, nil, nil},
		{[]int64{}, nil, nil},
		{[]int64{1, 2, 3}, []int64{10, -20, 0}, []int64{11, -18, 3}},
		{[]int64{api.MaxNum, api.MaxNum, api.MaxNum}, []int64{0, 1, -1}, []int64{api.MaxNum, api.MaxNum, api.MaxNum - 1}},
		{[]int64{api.MinNum, api.MinNum, api.MinNum}, []int64{0, -1, 1}, []int64{api.MinNum, api.MinNum, api.MinNum + 1}},
		{[]int64{api.MaxNum, api.MinNum, api.MaxNum}, []int64{api.MaxNum, api.MinNum, api.MinNum}, []int64{api.MaxNum, api.MinNum, -1}},
		{[]int64{greatest, least, greatest}, []int64{greatest, least, least}, []int64{api.MaxNum, api.MinNum, -1}},
		{[]int64{greatest, least}, []int64{-5, 5}, []int64{api.MaxNum - 5, api.MinNum + 5}},
		{[]int64{api.MaxNum + 1, api.MinNum - 1}, []int64{-1, 1}, []int64{api.MaxNum - 1, api.MinNum + 1}},
		{[]int64{1 << 40, -1 << 40}, []int64{-1 << 40, 1<<40 + 9}, []int64{-1, -1}},
	} {
		for range 2 {
			if list, e := Add(c.a, c.b); !slices.Equal(list, c.want) || e != api.OK {
				t.Errorf("Add(%v, %v): %v, error %d, not %v", c.a, c.b, list, e, c.want)
			}
			c.a, c.b = c.b, c.a
		}
	}
}

// 4.2: Add of rows of all kinds, held against whole numbers without bounds.
func TestAddMixed(t *testing.T) {
	a, b := mixed(5000, 1), mixed(5000, 2)
	list, e := Add(a, b)
	if len(list) != len(a) || e != api.OK {
		t.Fatalf("%d members, error %d", len(list), e)
	}
	for i, n := range list {
		want := within(new(big.Int).Add(clamped(a[i]), clamped(b[i])), api.MinNum, api.MaxNum).Int64()
		if n != want {
			t.Errorf("%d and %d: %d, not %d", a[i], b[i], n, want)
		}
	}
}

// 4.2: Scale is sat.Mul of each member.
func TestScale(t *testing.T) {
	for _, c := range []struct {
		x    []int64
		n    int64
		want []int64
	}{
		{nil, 65536, nil},
		{[]int64{}, greatest, nil},
		{[]int64{2}, 98304, []int64{3}},
		{[]int64{5, -5, 0}, 65536, []int64{5, -5, 0}},
		{[]int64{5, -5, 0}, 0, []int64{0, 0, 0}},
		{[]int64{1, -1, 3, -3}, 32768, []int64{1, -1, 2, -2}},
		{[]int64{1, -1, 3, -3}, 32767, []int64{0, 0, 1, -1}},
		{[]int64{greatest, least, api.MaxNum, api.MinNum}, 65536, []int64{api.MaxNum, api.MinNum, api.MaxNum, api.MinNum}},
		{[]int64{greatest, least, 4}, -65536, []int64{-api.MaxNum, api.MaxNum, -4}},
		{[]int64{65536, -65536, 2}, greatest, []int64{api.MaxNum, -api.MaxNum, 65536}},
		{[]int64{65536, -65536, 2}, least, []int64{api.MinNum, api.MaxNum, -65536}},
	} {
		if list := Scale(c.x, c.n); !slices.Equal(list, c.want) {
			t.Errorf("Scale(%v, %d): %v, not %v", c.x, c.n, list, c.want)
		}
	}
	x := mixed(500, 3)
	for _, n := range mixed(50, 4) {
		for i, m := range Scale(x, n) {
			want := within(rounded(new(big.Int).Mul(clamped(x[i]), clamped(n)), 16), api.MinNum, api.MaxNum).Int64()
			if m != want || m != sat.Mul(x[i], n) {
				t.Errorf("%d times %d: %d, not %d", x[i], n, m, want)
			}
		}
	}
}

// 4.3: Mat of one row is Dot.
func TestMatOfOneRow(t *testing.T) {
	for seed := range uint64(200) {
		count := int(seed%24) + 1
		w, x := mixedWeights(count, seed), mixed(count, seed+1000)
		n, e := Dot(w, x)
		if e != api.OK {
			t.Fatalf("error %d", e)
		}
		checkMat(t, w, 1, x, []int64{n})
	}
}

// 4.3: where no sum leaves 64 bits, Dot and Inner are the rounded sums of the products.
func TestSumsWithin(t *testing.T) {
	for seed := range uint64(200) {
		count := int(seed % 30)
		w, x := mixedWeights(count, seed), mixed(count, seed+1000)
		checkDot(t, w, x, freeSum(wide(w), x, 6))
		a, b := mixed(count, seed+2000), mixed(count, seed+3000)
		for i := range a {
			a[i], b[i] = a[i]%(1<<28), b[i]%(1<<28)
		}
		checkInner(t, a, b, freeSum(a, b, 16))
		slices.Reverse(a)
		slices.Reverse(b)
		checkInner(t, a, b, freeSum(a, b, 16))
	}
}

// roomy is a list with marked room behind its end.
func roomy[M int8 | int64](list ...M) []M {
	all := append(slices.Clone(list), 11, 22, 33)
	return all[:len(list)]
}

// R4: rows that are handed in are as they were afterwards, with the room behind them; answers share nothing with them.
func TestNothingChanged(t *testing.T) {
	w, x := roomy[int8](64, -128, 127, 1), roomy[int64](greatest, -5)
	a, b := roomy[int64](least, 7, greatest), roomy[int64](3, greatest, least)
	answers := func() [][]int64 {
		mat, _ := Mat(w, 2, x)
		dot, _ := Dot(w[:2], x)
		inner, _ := Inner(a, b)
		sums, _ := Add(a, b)
		return [][]int64{mat, {dot, inner}, sums, Scale(a, 98304)}
	}
	first := answers()
	kept := make([][]int64, len(first))
	for i, list := range first {
		kept[i] = slices.Clone(list)
		for j := range cap(list) {
			list[:cap(list)][j] = 99
		}
	}
	for i, list := range answers() {
		if !slices.Equal(list, kept[i]) {
			t.Errorf("answer %d: %v, then %v", i, kept[i], list)
		}
	}
	if !slices.Equal(w[:7], []int8{64, -128, 127, 1, 11, 22, 33}) || !slices.Equal(x[:5], []int64{greatest, -5, 11, 22, 33}) {
		t.Errorf("changed: %v, %v", w[:7], x[:5])
	}
	if !slices.Equal(a[:6], []int64{least, 7, greatest, 11, 22, 33}) || !slices.Equal(b[:6], []int64{3, greatest, least, 11, 22, 33}) {
		t.Errorf("changed: %v, %v", a[:6], b[:6])
	}
}

// R4: a row handed in twice is read, not written.
func TestSameRowTwice(t *testing.T) {
	a := []int64{3, -4, greatest}
	if list, e := Add(a, a); !slices.Equal(list, []int64{6, -8, api.MaxNum}) || e != api.OK {
		t.Errorf("Add: %v, error %d", list, e)
	}
	checkInner(t, a[:2], a[:2], 0)
	if !slices.Equal(a, []int64{3, -4, greatest}) {
		t.Errorf("changed: %v", a)
	}
}
