package draw

import (
	"math"
	"math/big"
	"testing"

	"aviary/api"
	"aviary/knob"
)

const (
	least = math.MinInt64
	most  = math.MaxInt64
	high  = int64(api.MaxNum)
	low   = int64(api.MinNum)
	// whole is the greatest number without a sign.
	whole = math.MaxUint64
)

// mixed is numbers of all sizes, the same ones each time for a seed.
func mixed(count int, seed uint64) []int64 {
	list := make([]int64, count)
	state := 88172645463325252 ^ seed<<7
	for i := range list {
		state ^= state << 13
		state ^= state >> 7
		state ^= state << 17
		list[i] = int64(state) >> (state % 61)
	}
	return list
}

// word is what is left of a number modulo 2^64.
func word(x *big.Int) *big.Int {
	return x.Mod(x, new(big.Int).Lsh(big.NewInt(1), 64))
}

// hex is a number that is written with hexadecimal digits.
func hex(digits string) *big.Int {
	x, _ := new(big.Int).SetString(digits, 16)
	return x
}

// turned is a number, turned by itself divided by 2^n, downwards.
func turned(z *big.Int, n int64) *big.Int {
	part := new(big.Int).Div(z, new(big.Int).Exp(big.NewInt(2), big.NewInt(n), nil))
	return new(big.Int).Xor(z, part)
}

// wantBits is the chapter's steps one behind the other, with numbers that have no bounds.
func wantBits(seed uint64, n int) uint64 {
	z := word(big.NewInt(int64(n)))
	z.Add(z, big.NewInt(1))
	z.Mul(z, hex("9E3779B97F4A7C15"))
	z = word(z.Add(z, new(big.Int).SetUint64(seed)))
	z = turned(z, 30)
	z = word(z.Mul(z, hex("BF58476D1CE4E5B9")))
	z = turned(z, 27)
	z = word(z.Mul(z, hex("94D049BB133111EB")))
	return turned(z, 31).Uint64()
}

func checkBits(t *testing.T, seed uint64, n int, want uint64) {
	t.Helper()
	if z := Bits(seed, n); z != want {
		t.Errorf("Bits(%X, %d): %X, not %X", seed, n, z, want)
	}
}

// seeds is seeds of all kinds.
func seeds() []uint64 {
	list := []uint64{0, 1, 2, 3, 1234567, 1<<30 - 1, 1 << 30, 1<<31 - 1, 1 << 31, 1 << 32, 1<<63 - 1, 1 << 63, 1<<63 + 1, whole - 1, whole}
	for i := range 64 {
		list = append(list, 1<<i)
	}
	for _, n := range mixed(40, 1) {
		list = append(list, uint64(n))
	}
	return list
}

// turns is numbers in a row of all kinds, also those below 0.
func turns() []int {
	list := []int{0, 1, 2, 3, 4, 23, 24, 1000, 1<<31 - 1, 1 << 31, 1 << 32, most - 1, most, -1, -2, -3, -1 << 31, -1 << 32, least + 1, least}
	for _, n := range mixed(40, 2) {
		list = append(list, int(n))
	}
	return list
}

// 18.1: the chapter's example, and numbers of rows that are known elsewhere.
func TestBits(t *testing.T) {
	for n, want := range []uint64{0xE220A8397B1DCDAF, 0x6E789E6AA1B965F4, 0x06C45D188009454F, 0xF88BB8A8724C81EC, 0x1B39896A51A8749B} {
		checkBits(t, 0, n, want)
	}
	for n, want := range []uint64{6457827717110365317, 3203168211198807973, 9817491932198370423, 4593380528125082431, 16408922859458223821} {
		checkBits(t, 1234567, n, want)
	}
	// One behind -1 is 0, so that of the seed 0 nothing is left to be turned.
	checkBits(t, 0, -1, 0)
	// A seed that is a stride greater makes the same row, one number ahead.
	checkBits(t, 0x9E3779B97F4A7C15, -1, 0xE220A8397B1DCDAF)
	checkBits(t, 0x9E3779B97F4A7C15, 0, 0x6E789E6AA1B965F4)
}

// 18.1: Bits of all kinds of seeds and numbers, held against the chapter's steps.
func TestBitsSteps(t *testing.T) {
	for _, seed := range seeds() {
		for _, n := range turns() {
			checkBits(t, seed, n, wantBits(seed, n))
		}
	}
}

// 18.1: each step can be gone back, so that no number comes twice.
func TestBitsDiffer(t *testing.T) {
	for _, seed := range []uint64{0, 1, whole} {
		seen := map[uint64]int{}
		for n := -1000; n < 1000; n++ {
			z := Bits(seed, n)
			if before, twice := seen[z]; twice {
				t.Errorf("Bits(%X, %d) is Bits(%X, %d)", seed, n, seed, before)
			}
			seen[z] = n
		}
	}
}

func checkHeat(t *testing.T, x float64, want int64, wantError api.Errno) {
	t.Helper()
	if heat, e := Heat(x); heat != want || e != wantError {
		t.Errorf("Heat(%g): %d, error %d, not %d, error %d", x, heat, e, want, wantError)
	}
}

func above(x float64) float64 { return math.Nextafter(x, math.Inf(1)) }

func below(x float64) float64 { return math.Nextafter(x, math.Inf(-1)) }

// nans is what is no number, by bits that differ.
func nans() []float64 {
	list := []float64{math.NaN()}
	for _, bits := range []uint64{0x7ff8000000000000, 0xfff8000000000000, 0x7ff0000000000001, 0xfff0000000000001, 0x7fffffffffffffff, whole} {
		list = append(list, math.Float64frombits(bits))
	}
	return list
}

// sizes is numbers above 0 of all sizes, with those next to them.
func sizes() []float64 {
	list := []float64{math.SmallestNonzeroFloat64, 0x1p-1022, math.MaxFloat64, math.Inf(1), 0.1, 0.7, 0.8, 1.3, math.Pi}
	for n := -1074; n < 1024; n += 7 {
		list = append(list, math.Ldexp(1, n))
	}
	for _, n := range []float64{0, 1, 2, 3, 4, 5, 1000, 32767, 32768, 65535, 65536, 65537, 1 << 30, 1<<31 - 2, 1<<31 - 1, 1 << 31, 1<<31 + 1, 1 << 32, 1 << 48, 1 << 62} {
		for _, part := range []float64{0, 0.25, 0.5, 0.75} {
			x := (n + part) / api.One
			list = append(list, below(x), x, above(x))
		}
	}
	return list
}

// 18.1: Heat, where the answers are known by hand.
func TestHeat(t *testing.T) {
	unit := 1.0 / api.One
	for _, c := range []struct {
		x    float64
		want int64
	}{
		{0, 0}, {math.Copysign(0, -1), 0}, {1, 65536}, {0.5, 32768}, {0.8, 52429}, {1.5, 98304},
		{unit, 1}, {unit / 2, 0}, {above(unit / 2), 1}, {below(unit / 2), 0}, {unit / 4, 0}, {1.5 * unit, 2}, {2.5 * unit, 2}, {3.5 * unit, 4},
		{math.SmallestNonzeroFloat64, 0}, {-math.SmallestNonzeroFloat64, 0},
		{32767, 32767 * 65536}, {below(32768), high}, {32768 - unit, high}, {32768, high}, {above(32768), high}, {1e300, high}, {math.MaxFloat64, high}, {math.Inf(1), high},
		{-unit / 2, 0}, {-unit, 0}, {-1.5 * unit, 0}, {-0.5, 0}, {-1, 0}, {-32767, 0}, {-32768, 0}, {-32769, 0}, {-1e300, 0}, {-math.MaxFloat64, 0}, {math.Inf(-1), 0},
	} {
		checkHeat(t, c.x, c.want, api.OK)
	}
	for _, x := range nans() {
		checkHeat(t, x, 0, api.ErrNan)
	}
}

// 18.1: Heat of all kinds of numbers, held against Fix.
func TestHeatFix(t *testing.T) {
	for _, size := range sizes() {
		for _, x := range []float64{size, -size} {
			want, e := knob.Fix(x)
			if want < 0 {
				want = 0
			}
			checkHeat(t, x, want, e)
		}
	}
}
