package curve

import (
	"math"
	"math/big"
	"math/bits"
	"testing"

	"aviary/api"
)

const (
	least    = math.MinInt64
	greatest = math.MaxInt64
)

// flat is a number from which on Exp of its opposite is 0, with room behind it.
const flat = 800000

// mixed is numbers of all sizes, the same ones each time.
func mixed(count int) []int64 {
	list := make([]int64, count)
	state := uint64(88172645463325252)
	for i := range list {
		state ^= state << 13
		state ^= state >> 7
		state ^= state << 17
		list[i] = int64(state) >> (i % 64)
	}
	return list
}

// beyond is numbers outside of 32 bits, with the number as which each is taken.
func beyond() [][2]int64 {
	list := [][2]int64{{api.MaxNum + 1, api.MaxNum}, {api.MinNum - 1, api.MinNum}, {greatest, api.MaxNum}, {least, api.MinNum}, {least + 1, api.MinNum}}
	for n := 32; n < 63; n++ {
		for by := int64(-1); by <= 1; by++ {
			list = append(list, [2]int64{1<<n + by, api.MaxNum}, [2]int64{-1<<n + by, api.MinNum})
		}
	}
	return list
}

func within(x int64) int64 {
	return min(max(x, api.MinNum), api.MaxNum)
}

// powers is the chapter's table of powers.
func powers() []int64 {
	return []int64{65536, 62757, 60097, 57549, 55109, 52773, 50535, 48393, 46341, 44376, 42495, 40693, 38968, 37316, 35734, 34219, 32768}
}

// nearest is a size divided by 65536, to the nearest whole number, a half upwards.
func nearest(size int64) int64 {
	return (size + 32768) / 65536
}

// wantExp follows 3.1 with whole numbers without bounds.
func wantExp(x int64) int64 {
	t := within(nearest(-min(within(x), 0) * 94548))
	if x <= api.MinNum {
		t = -api.MinNum // Mul's answer is the least number here, whose opposite has no place in 32 bits.
	}
	k, f := new(big.Int).DivMod(big.NewInt(t), big.NewInt(65536), new(big.Int))
	if k.Cmp(big.NewInt(16)) > 0 {
		return 0
	}
	i, g := f.Int64()>>12, f.Int64()&4095
	fall := big.NewInt((powers()[i] - powers()[i+1]) * g)
	v := new(big.Int).Sub(big.NewInt(powers()[i]), fall.Rsh(fall, 12))
	return v.Rsh(v, uint(k.Int64())).Int64()
}

// wantSig follows 3.2: all quotients are of numbers above 0.
func wantSig(x int64) int64 {
	x = within(x)
	if x < 0 {
		return 65536 - wantSig(-x)
	}
	return 1 << 32 / (65536 + wantExp(-x))
}

// wantSilu follows 3.2; the product has x's sign.
func wantSilu(x int64) int64 {
	x = within(x)
	if x < 0 {
		return -nearest(-x * wantSig(x))
	}
	return nearest(x * wantSig(x))
}

// 3.1: Exp at each entry of the table of powers: numbers for which g is 0 or 1.
func TestExpEntries(t *testing.T) {
	at := []int64{0, -2839, -5678, -8518, -11357, -14196, -17035, -19874, -22713, -25552, -28392, -31231, -34070, -36909, -39748, -42587, -45426}
	for i, x := range at {
		if got, want := Exp(x), powers()[i]; got != want {
			t.Errorf("Exp(%d): %d, want %d", x, got, want)
		}
		if about := 65536 * math.Pow(2, -float64(i)/16); math.Abs(float64(powers()[i])-about) > 0.51 {
			t.Errorf("P(%d): %d, want about %g", i, powers()[i], about)
		}
	}
}

// 3.1: Exp above 0, where k, i and g turn, with k at 16 and above it, and outside of 32 bits.
func TestExp(t *testing.T) {
	for _, c := range []struct{ x, want int64 }{
		{0, 65536}, {1, 65536}, {9, 65536}, {65536, 65536}, {api.MaxNum, 65536}, {api.MaxNum + 1, 65536}, {greatest, 65536},
		{-1, 65536}, {-2, 65534}, {-3, 65534}, {-2838, 62759}, {-2839, 62757}, {-2840, 62757}, {-2841, 62756},
		{-16384, 51049}, {-32768, 39759}, {-65536, 24111}, {-131072, 8870}, {-196608, 3263}, {-655360, 2},
		{-45425, 32769}, {-45426, 32768}, {-45427, 32768}, {-45428, 32767}, {-90852, 16384}, {-90853, 16384}, {-90854, 16383},
		{-726820, 1}, {-726821, 1}, {-726822, 1}, {-726823, 0}, {-772247, 0}, {-772248, 0}, {-772249, 0},
		{-32768 * 65536 / 2, 0}, {-api.MaxNum, 0}, {api.MinNum, 0}, {api.MinNum - 1, 0}, {-1 << 32, 0}, {-1 << 40, 0}, {1 << 40, 65536}, {least, 0},
	} {
		if got := Exp(c.x); got != c.want {
			t.Errorf("Exp(%d): %d, want %d", c.x, got, c.want)
		}
	}
	for x := int64(-flat); x <= 10; x++ {
		if got, want := Exp(x), wantExp(x); got != want {
			t.Fatalf("Exp(%d): %d, want %d", x, got, want)
		}
	}
	for _, x := range mixed(10000) {
		if got, want := Exp(x), wantExp(x); got != want {
			t.Fatalf("Exp(%d): %d, want %d", x, got, want)
		}
	}
	for _, b := range beyond() {
		if got, want := Exp(b[0]), Exp(b[1]); got != want {
			t.Errorf("Exp(%d): %d, want %d", b[0], got, want)
		}
	}
}

// atMost tells whether r times r times x is at most 2^48; r is at most 2^25.
func atMost(r, x int64) bool {
	high, low := bits.Mul64(uint64(r*r), uint64(x))
	return high == 0 && low <= 1<<48
}

// checkRsqrt holds Rsqrt of a number from 1 to MaxNum against 3.1's own words.
func checkRsqrt(t *testing.T, x int64) {
	t.Helper()
	if r := Rsqrt(x); r < 0 || r > 1<<24 || !atMost(r, x) || atMost(r+1, x) {
		t.Fatalf("Rsqrt(%d): %d is not the greatest", x, r)
	}
}

// 3.1: Rsqrt below 1 and at it, at squares and next to them, and outside of 32 bits.
func TestRsqrt(t *testing.T) {
	for _, c := range []struct{ x, want int64 }{
		{65536, 65536}, {262144, 32768}, {0, api.MaxNum}, {-1, api.MaxNum}, {-65536, api.MaxNum}, {api.MinNum, api.MaxNum}, {api.MinNum - 1, api.MaxNum}, {least, api.MaxNum},
		{1, 16777216}, {2, 11863283}, {3, 9686330}, {4, 8388608}, {5, 7502999}, {9, 5592405}, {15, 4331858}, {16, 4194304}, {17, 4069072}, {100, 1677721},
		{65535, 65536}, {65537, 65535}, {131072, 46340}, {262143, 32768}, {262145, 32767}, {1 << 30, 512}, {1<<30 + 1, 511},
		{api.MaxNum - 1, 362}, {api.MaxNum, 362}, {api.MaxNum + 1, 362}, {1 << 40, 362}, {1<<32 + 1, 362}, {greatest, 362},
	} {
		if got := Rsqrt(c.x); got != c.want {
			t.Errorf("Rsqrt(%d): %d, want %d", c.x, got, c.want)
		}
	}
	for x := int64(1); x <= 1<<20; x++ {
		checkRsqrt(t, x)
	}
	for s := int64(2); s*s < api.MaxNum; s++ {
		for x := s*s - 1; x <= s*s+1; x++ {
			checkRsqrt(t, x)
		}
	}
	for _, x := range mixed(10000) {
		if x = within(x); x >= 1 {
			checkRsqrt(t, x)
		} else if got := Rsqrt(x); got != api.MaxNum {
			t.Fatalf("Rsqrt(%d): %d, want %d", x, got, api.MaxNum)
		}
	}
	for _, b := range beyond() {
		if got, want := Rsqrt(b[0]), Rsqrt(b[1]); got != want {
			t.Errorf("Rsqrt(%d): %d, want %d", b[0], got, want)
		}
	}
}

// 3.1: Rsqrt where its answer turns: the greatest number that may have r has it, and the next one has less.
func TestRsqrtTurns(t *testing.T) {
	for r := int64(363); r <= 1<<24; r += 1 + r/1000 {
		x := (1 << 48) / (r * r)
		if got := Rsqrt(x); got < r {
			t.Fatalf("Rsqrt(%d): %d, want %d or more", x, got, r)
		}
		if got := Rsqrt(x + 1); got >= r {
			t.Fatalf("Rsqrt(%d): %d, want less than %d", x+1, got, r)
		}
	}
}

// 3.2: Sig and Silu at 0, on both sides of it, at the bounds, and outside of 32 bits.
func TestSigSilu(t *testing.T) {
	for _, c := range []struct{ x, sig, silu int64 }{
		{0, 32768, 0}, {1, 32768, 1}, {-1, 32768, -1}, {2, 32768, 1}, {-2, 32768, -1},
		{32768, 40789, 20395}, {-32768, 24747, -12374}, {65536, 47909, 47909}, {-65536, 17627, -17627},
		{131072, 57723, 115446}, {-131072, 7813, -15626}, {655360, 65534, 655340}, {-655360, 2, -20},
		{727000, 65536, 727000}, {-727000, 0, 0}, {api.MaxNum, 65536, api.MaxNum}, {-api.MaxNum, 0, 0}, {api.MinNum, 0, 0},
		{api.MaxNum + 1, 65536, api.MaxNum}, {api.MinNum - 1, 0, 0}, {1 << 40, 65536, api.MaxNum}, {-1 << 40, 0, 0},
		{1<<32 + 5, 65536, api.MaxNum}, {greatest, 65536, api.MaxNum}, {least, 0, 0}, {least + 1, 0, 0},
	} {
		if got := Sig(c.x); got != c.sig {
			t.Errorf("Sig(%d): %d, want %d", c.x, got, c.sig)
		}
		if got := Silu(c.x); got != c.silu {
			t.Errorf("Silu(%d): %d, want %d", c.x, got, c.silu)
		}
	}
	list := mixed(10000)
	for x := int64(-flat); x <= flat; x += 3 {
		list = append(list, x)
	}
	for x := int64(-1000); x <= 1000; x++ {
		list = append(list, x)
	}
	for _, x := range list {
		if got, want := Sig(x), wantSig(x); got != want {
			t.Fatalf("Sig(%d): %d, want %d", x, got, want)
		}
		if got, want := Silu(x), wantSilu(x); got != want {
			t.Fatalf("Silu(%d): %d, want %d", x, got, want)
		}
	}
	for _, b := range beyond() {
		if Sig(b[0]) != Sig(b[1]) || Silu(b[0]) != Silu(b[1]) {
			t.Errorf("Sig(%d): %d, want %d; Silu: %d, want %d", b[0], Sig(b[0]), Sig(b[1]), Silu(b[0]), Silu(b[1]))
		}
	}
}

// 3.2: each entry of the tables of cosines and sines, and the same for each further turn on both sides of 0.
func TestCosSin(t *testing.T) {
	cosines := []int64{65536, 60547, 46341, 25080, 0, -25080, -46341, -60547, -65536, -60547, -46341, -25080, 0, 25080, 46341, 60547}
	sines := []int64{0, 25080, 46341, 60547, 65536, 60547, 46341, 25080, 0, -25080, -46341, -60547, -65536, -60547, -46341, -25080}
	for n := range 16 {
		angle := float64(n) * math.Pi / 8
		if math.Abs(float64(cosines[n])-65536*math.Cos(angle)) > 0.51 || math.Abs(float64(sines[n])-65536*math.Sin(angle)) > 0.51 {
			t.Errorf("C(%d): %d, S: %d: not the curves", n, cosines[n], sines[n])
		}
		for _, turns := range []int{0, 1, -1, 2, -2, 1000, -1000, 1 << 40, -1 << 40, 1<<59 - 1, -1 << 59} {
			at := 16*turns + n
			if Cos(at) != cosines[n] || Sin(at) != sines[n] {
				t.Errorf("Cos(%d): %d, want %d; Sin: %d, want %d", at, Cos(at), cosines[n], Sin(at), sines[n])
			}
		}
	}
	for _, c := range []struct {
		n        int
		cos, sin int64
	}{
		{-1, 60547, -25080}, {-4, 0, -65536}, {-15, 60547, 25080}, {-16, 65536, 0}, {-17, 60547, -25080},
		{16, 65536, 0}, {17, 60547, 25080}, {math.MaxInt, 60547, -25080}, {math.MinInt, 65536, 0}, {math.MinInt + 3, 25080, 60547},
	} {
		if Cos(c.n) != c.cos || Sin(c.n) != c.sin {
			t.Errorf("Cos(%d): %d, want %d; Sin: %d, want %d", c.n, Cos(c.n), c.cos, Sin(c.n), c.sin)
		}
	}
}

// rising is numbers in order, close to one another where the curves bend.
func rising() []int64 {
	list := []int64{least, least + 1, -1 << 40, api.MinNum - 1, api.MinNum, api.MinNum + 1}
	for x := int64(-1 << 30); x < -1<<20; x /= 2 {
		list = append(list, x)
	}
	for x := int64(-flat); x <= flat; x++ {
		list = append(list, x)
	}
	for x := int64(1 << 20); x <= 1<<30; x += x / 100 {
		list = append(list, x)
	}
	return append(list, api.MaxNum-1, api.MaxNum, api.MaxNum+1, 1<<40, greatest)
}

// 3.3: Exp does not fall and keeps its bounds; Rsqrt does not rise.
func TestOrder(t *testing.T) {
	exp, rsqrt := int64(0), int64(api.MaxNum)
	for _, x := range rising() {
		e, r := Exp(x), Rsqrt(x)
		if e < exp || e > 65536 {
			t.Fatalf("Exp(%d): %d behind %d", x, e, exp)
		}
		if r > rsqrt {
			t.Fatalf("Rsqrt(%d): %d behind %d", x, r, rsqrt)
		}
		exp, rsqrt = e, r
	}
}

// 3.3: Sig of a number and of its opposite are One together.
func TestSigBothSides(t *testing.T) {
	for _, x := range rising() {
		if x < -api.MaxNum || x > api.MaxNum {
			continue
		}
		if got := Sig(x) + Sig(-x); got != 65536 {
			t.Fatalf("Sig(%d) and Sig(%d): %d together", x, -x, got)
		}
	}
}
