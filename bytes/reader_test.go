package bytes

import (
	"math"
	"slices"
	"strings"
	"testing"

	"aviary/api"
)

// plain is a reader that the tests hold the program's one against: it counts how far it has read.
type plain struct {
	text []byte
	at   int
	e    api.Errno
}

func (p *plain) two() int {
	switch {
	case p.e != api.OK:
		return 0
	case p.at+2 > len(p.text):
		p.e = api.ErrShort
		return 0
	}
	p.at += 2
	return 256*int(p.text[p.at-1]) + int(p.text[p.at-2])
}

func (p *plain) weights(n int) []int8 {
	count := p.two()
	switch {
	case p.e != api.OK:
		return nil
	case count != n:
		p.e = api.ErrShape
		return nil
	case len(p.text)-p.at < n:
		p.e = api.ErrShort
		return nil
	}
	var list []int8
	for range n {
		value := int(p.text[p.at])
		if value > 127 {
			value -= 256
		}
		list = append(list, int8(value))
		p.at++
	}
	return list
}

func (p *plain) end() api.Errno {
	if p.e == api.OK && p.at < len(p.text) {
		return api.ErrMore
	}
	return p.e
}

func readTwo(t *testing.T, r *Reader, want int) {
	t.Helper()
	if n := r.Two(); n != want {
		t.Errorf("Two: %d, not %d", n, want)
	}
}

func readWeights(t *testing.T, r *Reader, n int, want []int8) {
	t.Helper()
	if w := r.Weights(n); !slices.Equal(w, want) {
		t.Errorf("Weights(%d): %d, %v, not %d, %v", n, len(w), few(w), len(want), few(want))
	}
}

// readEnd asks twice: asking changes nothing.
func readEnd(t *testing.T, r *Reader, want api.Errno) {
	t.Helper()
	for range 2 {
		if e := r.End(); e != want {
			t.Errorf("End: %d, not %d", e, want)
		}
	}
}

// readNothing tells that behind an error nothing is read, and that the first error stays.
func readNothing(t *testing.T, r *Reader, want api.Errno) {
	t.Helper()
	readEnd(t, r, want)
	for _, n := range []int{0, 1, 2, -1, 65535, math.MinInt, math.MaxInt} {
		readTwo(t, r, 0)
		readEnd(t, r, want)
		readWeights(t, r, n, nil)
		readEnd(t, r, want)
	}
}

// 8.2: none, one, two and more bytes left.
func TestReaderTwo(t *testing.T) {
	r := NewReader("")
	readEnd(t, r, api.OK)
	readTwo(t, r, 0)
	readNothing(t, r, api.ErrShort)

	for _, s := range []string{"\x00", "\x01", "\x80", "\xff"} {
		r = NewReader(s)
		readEnd(t, r, api.ErrMore)
		readTwo(t, r, 0)
		readNothing(t, r, api.ErrShort)
	}

	r = NewReader("\x02\x01")
	readEnd(t, r, api.ErrMore)
	readTwo(t, r, 258)
	readEnd(t, r, api.OK)
	readTwo(t, r, 0)
	readNothing(t, r, api.ErrShort)

	r = NewReader("\x02\x01\x05")
	readTwo(t, r, 258)
	readEnd(t, r, api.ErrMore)
	readTwo(t, r, 0)
	readNothing(t, r, api.ErrShort)

	r = NewReader("\x02\x01\xff\xff\x00\x80\x00\x00")
	readTwo(t, r, 258)
	readTwo(t, r, 65535)
	readTwo(t, r, 32768)
	readEnd(t, r, api.ErrMore)
	readTwo(t, r, 0)
	readEnd(t, r, api.OK)
	readTwo(t, r, 0)
	readNothing(t, r, api.ErrShort)
}

// 8.2: each number that two bytes hold.
func TestReaderTwoMany(t *testing.T) {
	for n := range 65536 {
		r := NewReader(string([]byte{byte(n % 256), byte(n / 256), 7}))
		readTwo(t, r, n)
		readEnd(t, r, api.ErrMore)
	}
}

// 8.2: no weight, one and several, with nothing behind them and with more.
func TestReaderWeights(t *testing.T) {
	for _, w := range [][]int8{nil, {0}, {1}, {-1}, {127}, {-128}, {1, -1}, {-128, 127, 0}, every(), weights(300, 1), weights(65534, 2), weights(65535, 3)} {
		s := wantWeights(w)
		r := NewReader(s)
		readWeights(t, r, len(w), w)
		readEnd(t, r, api.OK)

		r = NewReader(s + "\x09")
		readWeights(t, r, len(w), w)
		readEnd(t, r, api.ErrMore)
		readTwo(t, r, 0)
		readNothing(t, r, api.ErrShort)

		r = NewReader(s + "\x09\x01")
		readWeights(t, r, len(w), w)
		readTwo(t, r, 265)
		readEnd(t, r, api.OK)
	}
}

// 8.2: a count that is not n is refused, one more and one less, and those that are the same in two bytes; also where fewer weights are left than either says.
func TestReaderShape(t *testing.T) {
	for _, count := range []int{0, 1, 2, 3, 255, 256, 65535} {
		whole := wantTwo(count) + text(count, 4)
		for _, s := range []string{whole, whole + "more", whole[:2+count/2], whole[:2]} {
			for _, n := range []int{count + 1, count - 1, count + 65536, count - 65536, count + 1<<32, -count - 1, 100, -1, -2, -65536, 65536, math.MinInt, math.MinInt + 1, math.MaxInt} {
				r := NewReader(s)
				readWeights(t, r, n, nil)
				readNothing(t, r, api.ErrShape)
			}
		}
	}
	r := NewReader("\x01\x00\x05")
	readWeights(t, r, 2, nil)
	readNothing(t, r, api.ErrShape)
}

// 8.2: fewer bytes left than the count says.
func TestReaderWeightsShort(t *testing.T) {
	for _, count := range []int{1, 2, 3, 8, 255, 256, 65535} {
		for _, there := range []int{0, 1, count / 2, count - 2, count - 1} {
			if there < 0 || there >= count {
				continue
			}
			r := NewReader(wantTwo(count) + text(there, 5))
			readWeights(t, r, count, nil)
			readNothing(t, r, api.ErrShort)
		}
	}
}

// 8.2: no whole count is left: that is too short, whatever n is, also where n is the 0 that Two answers.
func TestReaderNoCount(t *testing.T) {
	for _, s := range []string{"", "\x00", "\x01", "\xff"} {
		for _, n := range []int{0, 1, 2, 255, 65535, 65536, -1, -256, math.MinInt, math.MaxInt} {
			r := NewReader(s)
			readWeights(t, r, n, nil)
			readNothing(t, r, api.ErrShort)
		}
	}
}

// 8.2: the first error stays, where another would come behind it.
func TestReaderFirstError(t *testing.T) {
	// ErrShape, and then too few bytes.
	r := NewReader("\x01\x00")
	readWeights(t, r, 0, nil)
	readTwo(t, r, 0)
	readWeights(t, r, 1, nil)
	readEnd(t, r, api.ErrShape)

	// ErrShort, and then a count that is not n; the one byte that is left is no ErrMore.
	r = NewReader("\x05\x00\x01")
	readWeights(t, r, 5, nil)
	readWeights(t, r, 1, nil)
	readWeights(t, r, 0, nil)
	readEnd(t, r, api.ErrShort)

	// Behind an error what would be right is not read.
	r = NewReader("\x01\x00\x02\x00\x07\x08\x03\x00")
	readWeights(t, r, 2, nil)
	readWeights(t, r, 2, nil)
	readTwo(t, r, 0)
	readEnd(t, r, api.ErrShape)
}

// 8.2: End tells of an error, of bytes that are left, and of neither; ErrMore is an answer, and reading goes on behind it.
func TestReaderEnd(t *testing.T) {
	readEnd(t, NewReader(""), api.OK)
	readEnd(t, NewReader("\x00"), api.ErrMore)
	readEnd(t, NewReader("aviary"), api.ErrMore)
	readEnd(t, NewReader(strings.Repeat("\x00", 1<<20)), api.ErrMore)

	r := NewReader("\x01\x00\x02\x00\xfb\xfa\x00\x00")
	readEnd(t, r, api.ErrMore)
	readTwo(t, r, 1)
	readEnd(t, r, api.ErrMore)
	readWeights(t, r, 2, []int8{-5, -6})
	readEnd(t, r, api.ErrMore)
	readWeights(t, r, 0, nil)
	readEnd(t, r, api.OK)
	readWeights(t, r, 0, nil)
	readEnd(t, r, api.ErrShort)
}

// calls is all rows of so many calls: 100 stands for Two, other numbers for Weights of them.
func calls(count int) [][]int {
	rows := [][]int{nil}
	for range count {
		var longer [][]int
		for _, row := range rows {
			for _, n := range []int{100, -1, 0, 1, 2, 257} {
				longer = append(longer, append(slices.Clone(row), n))
			}
		}
		rows = longer
	}
	return rows
}

// readBoth makes the same calls of the program's reader and of the tests' own.
func readBoth(t *testing.T, s string, row []int) {
	t.Helper()
	r, p := NewReader(s), &plain{text: []byte(s)}
	readEnd(t, r, p.end())
	for _, n := range row {
		if n == 100 {
			readTwo(t, r, p.two())
		} else {
			readWeights(t, r, n, p.weights(n))
		}
		readEnd(t, r, p.end())
	}
	if t.Failed() {
		t.Fatalf("of the bytes %x with the calls %v", short(s), row)
	}
}

// 8.2: all short texts of few bytes, with all rows of three calls.
func TestReaderMany(t *testing.T) {
	rows := calls(3)
	for count := range 7 {
		for _, s := range made(count, 0, 1, 2, 255) {
			if count == 6 && s[1] != 0 {
				continue
			}
			for _, row := range rows {
				readBoth(t, s, row)
			}
		}
	}
}

// 8.3: numbers and weights, written one behind the other in any order, are read again as they were.
func TestReadAgain(t *testing.T) {
	for seed := range uint64(500) {
		var written strings.Builder
		plan := mixed(int(seed%23), seed)
		for i, n := range plan {
			if n%2 == 0 {
				written.WriteString(Two(n))
			} else {
				written.WriteString(Weights(weights(n&63, seed+uint64(i))))
			}
		}
		s, e := Open(Seal(written.String()))
		if s != written.String() || e != api.OK {
			t.Fatalf("Open: %x, error %d", short(s), e)
		}
		r := NewReader(s)
		for i, n := range plan {
			readEnd(t, r, api.ErrMore)
			if n%2 == 0 {
				readTwo(t, r, n&65535)
			} else {
				readWeights(t, r, n&63, weights(n&63, seed+uint64(i)))
			}
		}
		readEnd(t, r, api.OK)
	}
}

// 8.3, R6: lists as long as they are written, and of longer ones what is.
func TestReadAgainLong(t *testing.T) {
	w := weights(70000, 6)
	r := NewReader(Weights(w[:65535]) + Two(65535) + Weights(w) + Weights(w[:65536]) + Two(-1))
	readWeights(t, r, 65535, w[:65535])
	readTwo(t, r, 65535)
	readWeights(t, r, 65535, w[:65535])
	readWeights(t, r, 65535, w[:65535])
	readTwo(t, r, 65535)
	readEnd(t, r, api.OK)
}

// R4: lists that were read share no memory, and two readers of one text know nothing of each other.
func TestReadersApart(t *testing.T) {
	s := Weights([]int8{1, 2, 3}) + Weights([]int8{4, 5, 6})
	one, two := NewReader(s), NewReader(s)
	first := one.Weights(3)
	second := one.Weights(3)
	same := two.Weights(3)
	clear(first[:cap(first)])
	_ = append(first, 9, 9, 9)
	if !slices.Equal(second, []int8{4, 5, 6}) || !slices.Equal(same, []int8{1, 2, 3}) {
		t.Errorf("%v and %v changed with another list", second, same)
	}
	readEnd(t, one, api.OK)
	readEnd(t, two, api.ErrMore)
	readWeights(t, two, 3, []int8{4, 5, 6})
	readTwo(t, one, 0)
	readEnd(t, one, api.ErrShort)
	readEnd(t, two, api.OK)
}
