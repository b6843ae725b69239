package sat

import (
	"math"
	"math/big"
	"slices"
	"testing"

	"aviary/api"
)

const (
	least    = math.MinInt64
	greatest = math.MaxInt64
)

// edges is numbers near those at which an answer changes its way, in order, each once.
func edges() []int64 {
	list := []int64{least, least + 1, least + 2, greatest, greatest - 1, greatest - 2}
	for n := range 63 {
		for by := int64(-2); by <= 2; by++ {
			list = append(list, 1<<n+by, -(1<<n)+by)
		}
	}
	for _, x := range []int64{3, 5, 7, 10, 98304, 196608, 21845, 1000003, 46341 * 46341} {
		list = append(list, x, -x)
	}
	slices.Sort(list)
	return slices.Compact(list)
}

// mixed is numbers of all sizes, the same ones each time.
func mixed(count int) []int64 {
	list := make([]int64, count)
	state := uint64(88172645463325252)
	for i := range list {
		state ^= state << 13
		state ^= state >> 7
		state ^= state << 17
		list[i] = int64(state) >> (i % 64)
	}
	return list
}

// operands is pairs' members: few enough that all pairs are quickly gone through.
func operands() []int64 {
	list := append(edges(), mixed(256)...)
	slices.Sort(list)
	return slices.Compact(list)
}

// within is x, or the bound that it is beyond.
func within(x *big.Int, low, high int64) int64 {
	if x.Cmp(big.NewInt(low)) < 0 {
		return low
	}
	if x.Cmp(big.NewInt(high)) > 0 {
		return high
	}
	return x.Int64()
}

// nearest is x divided by 2^n in whole numbers without bounds, a half away from 0.
func nearest(x *big.Int, n int) *big.Int {
	n = min(max(n, 0), 62)
	size := new(big.Int).Abs(x)
	size.Lsh(size, 1)
	size.Add(size, new(big.Int).Lsh(big.NewInt(1), uint(n)))
	size.Rsh(size, uint(n)+1)
	if x.Sign() < 0 {
		size.Neg(size)
	}
	return size
}

func clamped(x int64) *big.Int {
	return big.NewInt(within(big.NewInt(x), api.MinNum, api.MaxNum))
}

func wantMul(a, b int64) int64 {
	product := new(big.Int).Mul(clamped(a), clamped(b))
	return within(nearest(product, 16), api.MinNum, api.MaxNum)
}

func wantDiv(a, b int64) int64 {
	top, bottom := clamped(a), clamped(b)
	if bottom.Sign() == 0 {
		return []int64{api.MinNum, 0, api.MaxNum}[top.Sign()+1]
	}
	top.Lsh(top, 16)
	return within(top.Quo(top, bottom), api.MinNum, api.MaxNum)
}

// shifts is counts on both sides of the bounds, and all within them.
func shifts() []int {
	list := []int{math.MinInt, -65, -64, -63, -2, -1, 63, 64, 65, 66, 127, 128, math.MaxInt}
	for n := range 63 {
		list = append(list, n)
	}
	return list
}

// 1.1: Clamp.
func TestClamp(t *testing.T) {
	for _, c := range []struct{ x, want int64 }{
		{0, 0}, {1, 1}, {-1, -1}, {api.One, api.One},
		{api.MaxNum - 1, api.MaxNum - 1}, {api.MaxNum, api.MaxNum}, {api.MaxNum + 1, api.MaxNum},
		{api.MinNum + 1, api.MinNum + 1}, {api.MinNum, api.MinNum}, {api.MinNum - 1, api.MinNum},
		{1 << 32, api.MaxNum}, {-1 << 32, api.MinNum}, {-1 << 40, api.MinNum}, {1<<32 + 5, api.MaxNum},
		{greatest, api.MaxNum}, {least, api.MinNum},
	} {
		if got := Clamp(c.x); got != c.want {
			t.Errorf("Clamp(%d): %d, want %d", c.x, got, c.want)
		}
	}
	for _, x := range operands() {
		if got, want := Clamp(x), clamped(x).Int64(); got != want {
			t.Errorf("Clamp(%d): %d, want %d", x, got, want)
		}
	}
}

// 1.1: Add, with sums within 64 bits, at their bounds and beyond them.
func TestAdd(t *testing.T) {
	for _, c := range []struct{ a, b, want int64 }{
		{0, 0, 0}, {2, 3, 5}, {2, -3, -1}, {-2, -3, -5},
		{api.MaxNum, 1, api.MaxNum + 1}, {api.MinNum, -1, api.MinNum - 1},
		{greatest, 0, greatest}, {greatest - 1, 1, greatest}, {greatest, 1, greatest}, {greatest, greatest, greatest},
		{least, 0, least}, {least + 1, -1, least}, {least, -1, least}, {least, least, least},
		{1 << 62, 1 << 62, greatest}, {-1 << 62, -1 << 62, least}, {-1 << 62, -1<<62 - 1, least},
		{greatest, least, -1}, {greatest, -greatest, 0}, {least, 1, least + 1}, {greatest, -1, greatest - 1},
	} {
		if got := Add(c.a, c.b); got != c.want {
			t.Errorf("Add(%d, %d): %d, want %d", c.a, c.b, got, c.want)
		}
	}
	for _, a := range operands() {
		for _, b := range operands() {
			sum := new(big.Int).Add(big.NewInt(a), big.NewInt(b))
			if got, want := Add(a, b), within(sum, least, greatest); got != want {
				t.Fatalf("Add(%d, %d): %d, want %d", a, b, got, want)
			}
		}
	}
}

// 1.1: Shift, with halves on both sides of 0 and counts beyond the bounds.
func TestShift(t *testing.T) {
	for _, c := range []struct {
		x    int64
		n    int
		want int64
	}{
		{3, 1, 2}, {-3, 1, -2}, {5, 2, 1}, {-5, 2, -1}, {6, 2, 2}, {-6, 2, -2}, {7, 2, 2}, {1, 1, 1}, {-1, 1, -1},
		{1, 2, 0}, {-1, 2, 0}, {0, 5, 0}, {7, 0, 7}, {-7, 0, -7},
		{7, -1, 7}, {-7, -1, -7}, {7, math.MinInt, 7}, {greatest, -3, greatest}, {least, -3, least},
		{greatest, 0, greatest}, {least, 0, least}, {greatest, 1, 1 << 62}, {least, 1, -1 << 62}, {least + 1, 1, -1 << 62},
		{greatest, 62, 2}, {least, 62, -2}, {1 << 61, 62, 1}, {1<<61 - 1, 62, 0}, {-1 << 61, 62, -1}, {1 - 1<<61, 62, 0},
		{3 << 61, 62, 2}, {3<<61 - 1, 62, 1}, {-3 << 61, 62, -2}, {1 - 3<<61, 62, -1},
		{greatest, 63, 2}, {least, 63, -2}, {greatest, 64, 2}, {least, 64, -2}, {1 << 61, 1000, 1}, {least, math.MaxInt, -2},
	} {
		if got := Shift(c.x, c.n); got != c.want {
			t.Errorf("Shift(%d, %d): %d, want %d", c.x, c.n, got, c.want)
		}
	}
	for _, n := range shifts() {
		for _, x := range operands() {
			if got, want := Shift(x, n), nearest(big.NewInt(x), n).Int64(); got != want {
				t.Fatalf("Shift(%d, %d): %d, want %d", x, n, got, want)
			}
		}
	}
}

// 1.2: Mul.
func TestMul(t *testing.T) {
	for _, c := range []struct{ a, b, want int64 }{
		{98304, 98304, 147456}, {-98304, 98304, -147456}, {-98304, -98304, 147456}, {0, api.MaxNum, 0},
		{1, 32768, 1}, {-1, 32768, -1}, {1, 32767, 0}, {-1, 32767, 0}, {1, 98304, 2}, {-1, 98304, -2},
		{api.MaxNum, api.MaxNum, api.MaxNum}, {api.MinNum, api.MinNum, api.MaxNum}, {api.MinNum, api.MaxNum, api.MinNum},
		{api.MinNum, -api.One, api.MaxNum}, {api.MinNum, api.One, api.MinNum}, {api.MaxNum, -api.One, -api.MaxNum},
		{api.MaxNum, api.One + 1, api.MaxNum}, {greatest, greatest, api.MaxNum}, {least, greatest, api.MinNum},
		{1 << 32, 1, 32768}, {1 << 40, 2, 65536}, {-1 << 40, 2, -65536}, {1<<32 + 1, 2, 65536},
	} {
		if got := Mul(c.a, c.b); got != c.want {
			t.Errorf("Mul(%d, %d): %d, want %d", c.a, c.b, got, c.want)
		}
	}
	for _, a := range operands() {
		for _, b := range operands() {
			if got, want := Mul(a, b), wantMul(a, b); got != want {
				t.Fatalf("Mul(%d, %d): %d, want %d", a, b, got, want)
			}
		}
	}
}

// 1.2: Div.
func TestDiv(t *testing.T) {
	for _, c := range []struct{ a, b, want int64 }{
		{65536, 196608, 21845}, {-65536, 196608, -21845}, {65536, -196608, -21845}, {-65536, -196608, 21845},
		{131072, 196608, 43690}, {-131072, 196608, -43690}, {0, 5, 0}, {0, -5, 0}, {1, api.MaxNum, 0}, {-1, api.MaxNum, 0},
		{1, 0, api.MaxNum}, {0, 0, 0}, {-1, 0, api.MinNum}, {greatest, 0, api.MaxNum}, {least, 0, api.MinNum},
		{1, 1, api.One}, {32767, 1, 32767 << 16}, {32768, 1, api.MaxNum}, {-32768, 1, api.MinNum}, {-32769, 1, api.MinNum},
		{api.MinNum, -1, api.MaxNum}, {api.MinNum, -api.One, api.MaxNum}, {api.MinNum, api.One, api.MinNum},
		{api.MaxNum, api.MaxNum, api.One}, {api.MinNum, api.MinNum, api.One}, {api.MinNum, api.MaxNum, -api.One},
		{greatest, greatest, api.One}, {least, greatest, -api.One}, {least, -1, api.MaxNum},
		{1 << 40, 1 << 32, api.One}, {1 << 20, 1 << 40, 32}, {1 << 40, 1 << 30, 2*api.One - 1},
	} {
		if got := Div(c.a, c.b); got != c.want {
			t.Errorf("Div(%d, %d): %d, want %d", c.a, c.b, got, c.want)
		}
	}
	for _, a := range operands() {
		for _, b := range operands() {
			if got, want := Div(a, b), wantDiv(a, b); got != want {
				t.Fatalf("Div(%d, %d): %d, want %d", a, b, got, want)
			}
		}
	}
}

// 1.3: the order of Mul's and Add's numbers does not matter, and One is Mul's neutral number.
func TestOrderAndOne(t *testing.T) {
	for _, a := range operands() {
		if got := Mul(a, api.One); got != Clamp(a) {
			t.Errorf("Mul(%d, One): %d, want %d", a, got, Clamp(a))
		}
		for _, b := range operands() {
			if Mul(a, b) != Mul(b, a) {
				t.Fatalf("Mul(%d, %d) hangs on the order", a, b)
			}
			if Add(a, b) != Add(b, a) {
				t.Fatalf("Add(%d, %d) hangs on the order", a, b)
			}
		}
	}
}

// 1.3: Shift goes up with its number, and is the same on both sides of 0.
func TestShiftFollows(t *testing.T) {
	for _, n := range shifts() {
		before := int64(least)
		for _, x := range operands() {
			got := Shift(x, n)
			if got < before {
				t.Fatalf("Shift(%d, %d): %d, less than %d of a lesser number", x, n, got, before)
			}
			before = got
			if x != least && Shift(-x, n) != -got {
				t.Fatalf("Shift(%d, %d): %d, want %d", -x, n, Shift(-x, n), -got)
			}
		}
	}
}
