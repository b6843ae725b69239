package knob

import (
	"math"
	"math/big"
	"slices"
	"testing"

	"aviary/api"
)

// tiny is the least number above 0.
const tiny = math.SmallestNonzeroFloat64

// normal is the least number above 0 whose bits are all there.
const normal = 0x1p-1022

func minusZero() float64 { return math.Copysign(0, -1) }

func above(x float64) float64 { return math.Nextafter(x, math.Inf(1)) }

func below(x float64) float64 { return math.Nextafter(x, math.Inf(-1)) }

// nans is what is no number, by bits that differ: sign, kind and payload.
func nans() []float64 {
	return []float64{
		math.NaN(),
		math.Float64frombits(0x7ff8000000000000),
		math.Float64frombits(0xfff8000000000000),
		math.Float64frombits(0x7ff0000000000001),
		math.Float64frombits(0xfff0000000000001),
		math.Float64frombits(0x7fffffffffffffff),
		math.Float64frombits(0xffffffffffffffff),
	}
}

// rising is what lies above 0, of all sizes, each above the one ahead of it.
func rising() []float64 {
	list := []float64{tiny, 2 * tiny, below(normal), normal, above(normal), math.MaxFloat64, below(math.MaxFloat64)}
	for n := -1074; n < 1024; n += 7 {
		list = append(list, math.Ldexp(1, n))
	}
	// The whole numbers of fixed point and the halves between them, with those next to them.
	for _, n := range []float64{0, 1, 2, 3, 4, 5, 1000, 32767, 32768, 65535, 65536, 65537, 1<<30 - 1, 1 << 30, 1<<31 - 2, 1<<31 - 1} {
		for _, part := range []float64{0, 0.25, 0.5, 0.75} {
			x := (n + part) / api.One
			if x > 0 {
				list = append(list, below(x), x, above(x))
			}
		}
	}
	list = append(list, below(32768), below(below(32768)), 32768, above(32768), 32769, 65536, 0.1, math.Pi, 123.456)
	list = slices.DeleteFunc(list, func(x float64) bool { return x == 0 })
	slices.Sort(list)
	return slices.Compact(list)
}

// ordered is all kinds of numbers but NaN, each ahead of what is greater.
func ordered() []float64 {
	ups := rising()
	list := []float64{math.Inf(-1)}
	for _, x := range slices.Backward(ups) {
		list = append(list, -x)
	}
	list = append(list, minusZero(), 0)
	list = append(list, ups...)
	return append(list, math.Inf(1))
}

// wantFix is the nearest whole number, by fractions without bounds.
func wantFix(x float64) int64 {
	if x >= 32768 {
		return api.MaxNum
	}
	if x <= -32768 {
		return api.MinNum
	}
	times := new(big.Rat).SetFloat64(x)
	times.Mul(times, big.NewRat(65536, 1))
	low := new(big.Int).Div(times.Num(), times.Denom()) // the lesser one, as the divisor is above 0
	rest := new(big.Rat).Sub(times, new(big.Rat).SetInt(low))
	n := low.Int64()
	side := rest.Cmp(big.NewRat(1, 2))
	if side > 0 || side == 0 && n%2 != 0 {
		n++
	}
	return min(n, api.MaxNum)
}

// 2.1: Fix, where the answers are known by hand.
func TestFix(t *testing.T) {
	unit := 1.0 / api.One
	for _, c := range []struct {
		x    float64
		want int64
	}{
		{0, 0}, {minusZero(), 0}, {0.5, 32768}, {-0.5, -32768}, {1, 65536}, {-1, -65536}, {1.25, 81920},
		{0.1, 6554}, {-0.1, -6554}, {math.Pi, 205887}, {123.456, 8090812},
		// Just between two whole ones, on both sides of 0.
		{0.5 * unit, 0}, {1.5 * unit, 2}, {2.5 * unit, 2}, {3.5 * unit, 4}, {65536.5 * unit, 65536}, {65537.5 * unit, 65538},
		{-0.5 * unit, 0}, {-1.5 * unit, -2}, {-2.5 * unit, -2}, {-3.5 * unit, -4}, {-65536.5 * unit, -65536}, {-65537.5 * unit, -65538},
		// And next to there.
		{above(0.5 * unit), 1}, {below(0.5 * unit), 0}, {below(1.5 * unit), 1}, {above(2.5 * unit), 3},
		{below(-0.5 * unit), -1}, {above(-0.5 * unit), 0}, {above(-1.5 * unit), -1}, {below(-2.5 * unit), -3},
		// The least numbers.
		{tiny, 0}, {-tiny, 0}, {normal, 0}, {-normal, 0},
		// The bounds.
		{32768, api.MaxNum}, {above(32768), api.MaxNum}, {1e300, api.MaxNum}, {math.MaxFloat64, api.MaxNum}, {math.Inf(1), api.MaxNum},
		{below(32768), api.MaxNum}, {32768 - unit, api.MaxNum}, {32768 - 0.5*unit, api.MaxNum}, {32768 - 0.25*unit, api.MaxNum},
		{32768 - 1.5*unit, api.MaxNum - 1}, {32768 - 2*unit, api.MaxNum - 1}, {32767, 32767 * 65536},
		{-32768, api.MinNum}, {below(-32768), api.MinNum}, {-1e300, api.MinNum}, {-math.MaxFloat64, api.MinNum}, {math.Inf(-1), api.MinNum},
		{above(-32768), api.MinNum}, {-32768 + 0.5*unit, api.MinNum}, {-32768 + 0.75*unit, api.MinNum + 1}, {-32768 + unit, api.MinNum + 1},
		{-32768 + 1.5*unit, api.MinNum + 2}, {-32767, -32767 * 65536},
	} {
		if n, e := Fix(c.x); n != c.want || e != api.OK {
			t.Errorf("Fix(%g): %d, error %d; want %d", c.x, n, e, c.want)
		}
	}
}

// 2.1: Fix of what is no number.
func TestFixNoNumber(t *testing.T) {
	for _, x := range nans() {
		if n, e := Fix(x); n != 0 || e != api.ErrNan {
			t.Errorf("Fix(%x): %d, error %d", math.Float64bits(x), n, e)
		}
	}
}

// 2.1: Fix, held against fractions without bounds.
func TestFixByFractions(t *testing.T) {
	list := ordered()
	state := uint64(88172645463325252)
	for i := range 20000 {
		state ^= state << 13
		state ^= state >> 7
		state ^= state << 17
		// Quarters and eighths between whole numbers, of all sizes.
		list = append(list, float64(int64(state)>>(i%63))/api.One/8)
	}
	for _, x := range list {
		if n, e := Fix(x); n != wantFix(x) || e != api.OK {
			t.Errorf("Fix(%g): %d, error %d; want %d", x, n, e, wantFix(x))
		}
	}
}

// 2.1: Float.
func TestFloat(t *testing.T) {
	for _, c := range []struct {
		n    int64
		want float64
	}{
		{0, 0}, {1, 0x1p-16}, {-1, -0x1p-16}, {65536, 1}, {-65536, -1}, {32768, 0.5}, {-98304, -1.5}, {65537, 1 + 0x1p-16},
		{api.MaxNum, 32768 - 0x1p-16}, {api.MaxNum - 1, 32768 - 0x1p-15}, {api.MinNum, -32768}, {api.MinNum + 1, -32768 + 0x1p-16},
		{api.MaxNum + 1, 32768 - 0x1p-16}, {api.MinNum - 1, -32768},
		{1 << 32, 32768 - 0x1p-16}, {1<<32 + 5, 32768 - 0x1p-16}, {-1 << 32, -32768}, {-1<<32 - 5, -32768},
		{math.MaxInt64, 32768 - 0x1p-16}, {math.MinInt64, -32768},
	} {
		if got := Float(c.n); got != c.want {
			t.Errorf("Float(%d): %g, want %g", c.n, got, c.want)
		}
	}
	if math.Signbit(Float(0)) {
		t.Errorf("Float(0) is -0")
	}
}

// 2.2: each kind of number against each other kind.
func TestSameLess(t *testing.T) {
	list := ordered()
	for i, a := range list {
		for j, b := range list {
			if Same(a, b) != (i == j) {
				t.Errorf("Same(%g, %g): %v", a, b, i != j)
			}
			if Less(a, b) != (i < j) {
				t.Errorf("Less(%g, %g): %v", a, b, i >= j)
			}
		}
	}
}

// 2.2: what is no number, against itself and against all others.
func TestSameLessNoNumber(t *testing.T) {
	for _, no := range nans() {
		for _, other := range nans() {
			if !Same(no, other) || Less(no, other) {
				t.Errorf("%x and %x, no numbers: Same %v, Less %v", math.Float64bits(no), math.Float64bits(other), Same(no, other), Less(no, other))
			}
		}
		for _, x := range ordered() {
			if Same(no, x) || Same(x, no) {
				t.Errorf("%x, no number, is the same as %g", math.Float64bits(no), x)
			}
			if !Less(no, x) || Less(x, no) {
				t.Errorf("%x, no number, is not ahead of %g", math.Float64bits(no), x)
			}
		}
	}
}

// 2.2: -0 and 0, as the chapter's examples have them.
func TestZeros(t *testing.T) {
	m := minusZero()
	if Same(m, 0) || Same(0, m) || !Same(m, m) || !Same(0, 0) {
		t.Errorf("Same of -0 and 0")
	}
	if !Less(m, 0) || Less(0, m) || Less(m, m) || Less(0, 0) {
		t.Errorf("Less of -0 and 0")
	}
}

// 2.3: Fix of Float is the number.
func TestFixOfFloat(t *testing.T) {
	check := func(n int64) {
		if got, e := Fix(Float(n)); got != n || e != api.OK {
			t.Errorf("Fix of Float(%d): %d, error %d", n, got, e)
		}
	}
	for by := range int64(5000) {
		check(by)
		check(-by)
		check(api.MinNum + by)
		check(api.MaxNum - by)
	}
	for n := int64(api.MinNum); n <= api.MaxNum; n += 99991 {
		check(n)
	}
}

// 2.3: of any two just one of three holds.
func TestJustOne(t *testing.T) {
	list := append(ordered(), nans()...)
	for _, a := range list {
		for _, b := range list {
			count := 0
			for _, holds := range []bool{Same(a, b), Less(a, b), Less(b, a)} {
				if holds {
					count++
				}
			}
			if count != 1 {
				t.Errorf("%g and %g: %d hold", a, b, count)
			}
		}
	}
}

// 2.3: Fix does not fall, where numbers rise; nor does it leave 32 bits.
func TestFixRises(t *testing.T) {
	list := ordered()
	for x := 32768 - 0x1p-14; x < 32768+0x1p-14; x += 0x1p-22 {
		list = append(list, x, -x)
	}
	slices.Sort(list)
	last := int64(api.MinNum)
	for _, x := range list {
		n, e := Fix(x)
		if n < last || n > api.MaxNum || e != api.OK {
			t.Errorf("Fix(%g): %d, error %d, behind %d", x, n, e, last)
		}
		last = n
	}
}
