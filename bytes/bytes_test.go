package bytes

import (
	"math"
	"math/big"
	"slices"
	"strings"
	"testing"

	"aviary/api"
)

// mixed is numbers of all sizes, the same ones each time for a seed.
func mixed(count int, seed uint64) []int {
	list := make([]int, count)
	state := 88172645463325252 ^ seed<<7
	for i := range list {
		state ^= state << 13
		state ^= state >> 7
		state ^= state << 17
		list[i] = int(int64(state) >> (state % 61))
	}
	return list
}

// weights is weights of all kinds, the same ones each time for a seed.
func weights(count int, seed uint64) []int8 {
	list := make([]int8, count)
	for i, n := range mixed(count, seed) {
		list[i] = int8(n)
	}
	return list
}

// text is bytes of all kinds, the same ones each time for a seed.
func text(count int, seed uint64) string {
	list := make([]byte, count)
	for i, n := range mixed(count, seed) {
		list[i] = byte(n)
	}
	return string(list)
}

// every is all weights there are, from -128 to 127.
func every() []int8 {
	var list []int8
	for n := -128; n <= 127; n++ {
		list = append(list, int8(n))
	}
	return list
}

// made is all texts of so many bytes that are made of these ones.
func made(count int, of ...byte) []string {
	texts := []string{""}
	for range count {
		var longer []string
		for _, s := range texts {
			for _, b := range of {
				longer = append(longer, s+string([]byte{b}))
			}
		}
		texts = longer
	}
	return texts
}

// texts is texts of many kinds, the empty one among them.
func texts() []string {
	list := []string{"", "ab", "aviary", "ä", strings.Repeat("\x00", 300), strings.Repeat("\xff", 300), strings.Repeat("\xfe", 300), strings.Repeat("\x01", 1000)}
	for count := range 5 {
		list = append(list, made(count, 0, 1, 127, 128, 254, 255)...)
	}
	for n := range 256 {
		list = append(list, string([]byte{byte(n)}))
	}
	for count := range 80 {
		list = append(list, text(count, uint64(count)))
	}
	return list
}

// short is a text as it is told in an error: long ones by their first bytes.
func short(s string) string {
	return s[:min(len(s), 16)]
}

// few is the same of a list.
func few(w []int8) []int8 {
	return w[:min(len(w), 16)]
}

// wantTwo works the rest out by numbers of any size, and divides it.
func wantTwo(n int) string {
	rest := new(big.Int).Mod(big.NewInt(int64(n)), big.NewInt(65536)).Int64()
	return string([]byte{byte(rest % 256), byte(rest / 256)})
}

// wantWeights makes each weight's byte as the chapter words it: itself, or itself and 256.
func wantWeights(w []int8) string {
	if len(w) > 65535 {
		w = w[:65535]
	}
	list := []byte(wantTwo(len(w)))
	for _, n := range w {
		value := int(n)
		if value < 0 {
			value += 256
		}
		list = append(list, byte(value))
	}
	return string(list)
}

// wantSum is the sum in one go: in b each byte counts as often as there are bytes from it on.
func wantSum(s string) int {
	a, b := 0, 0
	for i, c := range []byte(s) {
		a += int(c)
		b += int(c) * (len(s) - i)
	}
	return 256*(b%255) + a%255
}

func checkTwo(t *testing.T, n int, want string) {
	t.Helper()
	if s := Two(n); s != want {
		t.Errorf("Two(%d): %x, not %x", n, s, want)
	}
}

func checkWeights(t *testing.T, w []int8, want string) {
	t.Helper()
	if s := Weights(w); s != want {
		t.Errorf("Weights of %d, %v: %d bytes, %x, not %d, %x", len(w), few(w), len(s), short(s), len(want), short(want))
	}
}

func checkSum(t *testing.T, s string, want int) {
	t.Helper()
	if n := Sum(s); n != want {
		t.Errorf("Sum of %d bytes, %x: %d, not %d", len(s), short(s), n, want)
	}
}

func checkOpen(t *testing.T, s, want string) {
	t.Helper()
	if ahead, e := Open(s); ahead != want || e != api.OK {
		t.Errorf("Open of %d bytes, %x: %x, error %d, not %x", len(s), short(s), short(ahead), e, short(want))
	}
}

func refuseOpen(t *testing.T, s string, want api.Errno) {
	t.Helper()
	if ahead, e := Open(s); ahead != "" || e != want {
		t.Errorf("Open of %d bytes, %x: %x, error %d, not %d", len(s), short(s), short(ahead), e, want)
	}
}

// The chapter's example.
func TestExample(t *testing.T) {
	checkTwo(t, 258, "\x02\x01")
	checkWeights(t, []int8{1, -1}, "\x02\x00\x01\xff")
	checkSum(t, "ab", 9667)
}

// 8.1: numbers that two bytes hold, and those beyond, below 0 too.
func TestTwo(t *testing.T) {
	for _, c := range []struct {
		n    int
		want string
	}{
		{0, "\x00\x00"},
		{1, "\x01\x00"},
		{127, "\x7f\x00"},
		{128, "\x80\x00"},
		{255, "\xff\x00"},
		{256, "\x00\x01"},
		{257, "\x01\x01"},
		{0x1234, "\x34\x12"},
		{32767, "\xff\x7f"},
		{32768, "\x00\x80"},
		{65280, "\x00\xff"},
		{65534, "\xfe\xff"},
		{65535, "\xff\xff"},
		{65536, "\x00\x00"},
		{65537, "\x01\x00"},
		{65536 + 258, "\x02\x01"},
		{131071, "\xff\xff"},
		{131072, "\x00\x00"},
		{1<<32 + 5, "\x05\x00"},
		{1 << 62, "\x00\x00"},
		{math.MaxInt, "\xff\xff"},
		{math.MaxInt - 1, "\xfe\xff"},
		{-1, "\xff\xff"},
		{-2, "\xfe\xff"},
		{-255, "\x01\xff"},
		{-256, "\x00\xff"},
		{-257, "\xff\xfe"},
		{-65535, "\x01\x00"},
		{-65536, "\x00\x00"},
		{-65537, "\xff\xff"},
		{-1<<32 - 5, "\xfb\xff"},
		{math.MinInt, "\x00\x00"},
		{math.MinInt + 1, "\x01\x00"},
	} {
		checkTwo(t, c.n, c.want)
	}
}

// 8.1: each number that two bytes hold, the same with 65536 more and less, and numbers of all sizes.
func TestTwoMany(t *testing.T) {
	for n := range 65536 {
		want := wantTwo(n)
		checkTwo(t, n, want)
		checkTwo(t, n+65536, want)
		checkTwo(t, n-65536, want)
	}
	for _, n := range mixed(10000, 1) {
		checkTwo(t, n, wantTwo(n))
	}
}

// 8.1: no weight, one and several, the ends of their range among them.
func TestWeights(t *testing.T) {
	for _, c := range []struct {
		w    []int8
		want string
	}{
		{nil, "\x00\x00"},
		{[]int8{}, "\x00\x00"},
		{[]int8{0}, "\x01\x00\x00"},
		{[]int8{1}, "\x01\x00\x01"},
		{[]int8{-1}, "\x01\x00\xff"},
		{[]int8{127}, "\x01\x00\x7f"},
		{[]int8{-128}, "\x01\x00\x80"},
		{[]int8{-127}, "\x01\x00\x81"},
		{[]int8{127, -128}, "\x02\x00\x7f\x80"},
		{[]int8{-128, 127, 0}, "\x03\x00\x80\x7f\x00"},
		{[]int8{3, 2, 1, 0, -1, -2}, "\x06\x00\x03\x02\x01\x00\xff\xfe"},
		{make([]int8, 255), "\xff\x00" + strings.Repeat("\x00", 255)},
		{make([]int8, 256), "\x00\x01" + strings.Repeat("\x00", 256)},
		{make([]int8, 258), "\x02\x01" + strings.Repeat("\x00", 258)},
		{make([]int8, 32768), "\x00\x80" + strings.Repeat("\x00", 32768)},
	} {
		checkWeights(t, c.w, c.want)
	}
	checkWeights(t, every(), wantWeights(every()))
	for count := range 300 {
		w := weights(count, uint64(count))
		checkWeights(t, w, wantWeights(w))
	}
}

// 8.1, R6: a list of 65535, and of a longer one its first 65535 alone.
func TestWeightsLong(t *testing.T) {
	w := weights(200000, 2)
	want := wantWeights(w[:65535])
	if len(want) != 65537 || want[:2] != "\xff\xff" {
		t.Fatalf("%d bytes, %x", len(want), want[:2])
	}
	for _, count := range []int{65535, 65536, 65537, 65538, 131070, 131072, 200000} {
		checkWeights(t, w[:count], want)
	}
	for _, count := range []int{65533, 65534} {
		checkWeights(t, w[:count], wantWeights(w[:count]))
	}
}

// 8.1: sums worked out by hand: of nothing, of 0 and of 255, and those that pass 255.
func TestSum(t *testing.T) {
	for _, c := range []struct {
		s    string
		want int
	}{
		{"", 0},
		{"\x00", 0},
		{"\x00\x00\x00", 0},
		{"\xff", 0},
		{"\xff\xff\xff", 0},
		{"\x00\xff\x00", 0},
		{"\x01", 256 + 1},
		{"\xfe", 256*254 + 254},
		{"\x80", 256*128 + 128},
		{"\x01\x00", 256*2 + 1},
		{"\x00\x01", 256 + 1},
		{"\x01\xff", 256*2 + 1},
		{"\xff\x01", 256 + 1},
		{"\x01\x02", 256*4 + 3},
		{"\x02\x01", 256*5 + 3},
		{"\xfe\x01", 256 * 254},
		{"\xfe\x02", 256*0 + 1},
		{"\xfe\xfe", 256*252 + 253},
		{"\x80\x7f", 256 * 128},
		{"\x80\x80", 256*129 + 1},
		{"\x01\x01\x01", 256*6 + 3},
		{"a", 256*97 + 97},
		{strings.Repeat("\x01", 254), 256*(32385%255) + 254},
		{strings.Repeat("\x01", 255), 256*(32640%255) + 0},
		{strings.Repeat("\x01", 256), 256*(32896%255) + 1},
	} {
		checkSum(t, c.s, c.want)
	}
}

// 8.1, R6: sums over many texts, and over one that is longer than any limit; each fits into two bytes, and neither of them is 255.
func TestSumMany(t *testing.T) {
	for _, s := range append(texts(), text(1<<20, 3), strings.Repeat("\xfe", 1<<20)) {
		checkSum(t, s, wantSum(s))
		if n := Sum(s); n < 0 || n%256 > 254 || n/256 > 254 {
			t.Errorf("Sum of %x: %d", short(s), n)
		}
	}
}

// 8.1: a sealed text is the text and its check sum's two bytes, the lower one first.
func TestSeal(t *testing.T) {
	for _, c := range []struct{ s, want string }{
		{"", "\x00\x00"},
		{"\x00", "\x00\x00\x00"},
		{"\xff", "\xff\x00\x00"},
		{"\x01", "\x01\x01\x01"},
		{"ab", "ab\xc3\x25"},
		{"\x02\x01", "\x02\x01\x03\x05"},
		{"\xfe\x01", "\xfe\x01\x00\xfe"},
		{"\x00\x00", "\x00\x00\x00\x00"},
	} {
		if s := Seal(c.s); s != c.want {
			t.Errorf("Seal(%x): %x, not %x", c.s, s, c.want)
		}
	}
	for _, s := range append(texts(), text(1<<20, 4)) {
		if sealed := Seal(s); sealed != s+wantTwo(wantSum(s)) {
			t.Errorf("Seal of %d bytes, %x: %d bytes, %x", len(s), short(s), len(sealed), short(sealed))
		}
	}
}

// 8.1: fewer than two bytes are too short, whatever they are.
func TestOpenShort(t *testing.T) {
	refuseOpen(t, "", api.ErrShort)
	for n := range 256 {
		refuseOpen(t, string([]byte{byte(n)}), api.ErrShort)
	}
}

// 8.1: of two bytes nothing is ahead, and its sum is 0; the bytes 255 are not it.
func TestOpenTwoBytes(t *testing.T) {
	for n := range 65536 {
		s := wantTwo(n)
		if n == 0 {
			checkOpen(t, s, "")
		} else {
			refuseOpen(t, s, api.ErrSum)
		}
	}
}

// 8.1: texts that are sealed, written out.
func TestOpen(t *testing.T) {
	checkOpen(t, "ab\xc3\x25", "ab")
	checkOpen(t, "\x01\x01\x01", "\x01")
	checkOpen(t, "\xff\x00\x00", "\xff")
	checkOpen(t, "\x00\x00\x00", "\x00")
	checkOpen(t, "\xfe\x01\x00\xfe", "\xfe\x01")
	for _, s := range append(texts(), text(1<<20, 5)) {
		checkOpen(t, s+wantTwo(wantSum(s)), s)
	}
}

// 8.1: a first or a last byte of the two that is not the check sum's, both of them, and in the other order.
func TestOpenWrongSum(t *testing.T) {
	for _, s := range texts() {
		sum := wantSum(s)
		for _, wrong := range []int{sum + 1, sum - 1, sum + 256, sum - 256, sum ^ 128, sum ^ 128<<8, sum + 257, sum%256*256 + sum/256, 65535 - sum} {
			if wrong != sum {
				refuseOpen(t, s+wantTwo(wrong), api.ErrSum)
			}
		}
	}
	for _, last := range made(2, 0, 255) {
		if last != "\x00\x00" {
			refuseOpen(t, last, api.ErrSum)
			refuseOpen(t, "\x00\xff"+last, api.ErrSum)
		}
	}
	refuseOpen(t, "ab", api.ErrSum)
	refuseOpen(t, "ab\x25\xc3", api.ErrSum)
	refuseOpen(t, "ab\xc3\x25\x00", api.ErrSum)
	refuseOpen(t, "b\xc3\x25", api.ErrSum)
	refuseOpen(t, "ba\xc3\x25", api.ErrSum)
}

// 8.3: Open of Seal is the text, sealed twice it is opened twice.
func TestOpenOfSeal(t *testing.T) {
	for _, s := range append(texts(), text(1<<20, 6)) {
		checkOpen(t, Seal(s), s)
		checkOpen(t, Seal(Seal(s)), Seal(s))
	}
}

// changed is a text with another byte at a place.
func changed(s string, place int, to byte) string {
	list := []byte(s)
	list[place] = to
	return string(list)
}

// 8.3: a sealed text with one byte changed to each other one, at each place, those of the sum too.
func TestOneByteChanged(t *testing.T) {
	list := []string{"", "\x00", "\xff", "ab", "aviary", strings.Repeat("\x00", 5), strings.Repeat("\xff", 5), strings.Repeat("\xfe\x01", 4), text(40, 7), text(300, 8)}
	for _, s := range list {
		sealed := Seal(s)
		for place := range len(sealed) {
			for n := range 256 {
				from, to := sealed[place], byte(n)
				switch another := changed(sealed, place, to); {
				case from == to:
					checkOpen(t, another, s)
				case (from == 0 && to == 255 || from == 255 && to == 0) && place < len(s):
					// They are the same to the sum.
					checkOpen(t, another, another[:len(s)])
				default:
					refuseOpen(t, another, api.ErrSum)
				}
			}
		}
	}
}

// roomy is a list that has members behind its end, in its spare room.
func roomy(w []int8) []int8 {
	return append(slices.Clone(w), 11, -22, 33)[:len(w)]
}

// R4: a list that is handed in stays as it was, its spare room too, and is not looked at beyond its end.
func TestNothingChanged(t *testing.T) {
	for _, count := range []int{0, 1, 2, 255, 256, 65534, 65535, 65536, 100000} {
		w := weights(count, uint64(count))
		list := roomy(w)
		checkWeights(t, list, wantWeights(w))
		checkWeights(t, list, wantWeights(w))
		if want := append(slices.Clone(w), 11, -22, 33); !slices.Equal(list[:count+3], want) {
			t.Errorf("a list of %d weights changed", count)
		}
	}
}

// R4: what was written stays as it was when the list is changed afterwards.
func TestNothingKept(t *testing.T) {
	w := []int8{1, -1, 5}
	s := Weights(w)
	clear(w)
	if s != "\x03\x00\x01\xff\x05" {
		t.Errorf("it became %x", s)
	}
}
