package bytes

import "aviary/api"

// rest is what is left of a text.
type rest struct {
	left string
}

// cut takes bytes off the front; where there are fewer it takes none, and is false.
func (t *rest) cut(count int) (string, bool) {
	if count > len(t.left) {
		return "", false
	}
	front := t.left[:count]
	t.left = t.left[count:]
	return front, true
}

// fault is the first error.
type fault struct {
	first api.Errno
}

// fail keeps an error, unless there was one ahead of it.
func (f *fault) fail(e api.Errno) {
	if !f.failed() {
		f.first = e
	}
}

func (f *fault) failed() bool {
	return f.first != api.OK
}

// Reader reads from the front of bytes.
type Reader struct {
	rest
	fault
}

// NewReader reads a text.
func NewReader(s string) *Reader {
	return &Reader{rest: rest{s}}
}

// take is the next bytes; nothing, and false, where there is an error or they are too few, which is one.
func (r *Reader) take(count int) (string, bool) {
	if r.failed() {
		return "", false
	}
	front, ok := r.cut(count)
	if !ok {
		r.fail(api.ErrShort)
	}
	return front, ok
}

// Two reads a number of two bytes.
func (r *Reader) Two() int {
	front, ok := r.take(2)
	if !ok {
		return 0
	}
	return int(front[0]) + int(front[1])<<8
}

// Weights reads weights, with their count.
func (r *Reader) Weights(n int) []int8 {
	// Where no count could be read that error came first, and stays.
	if r.Two() != n {
		r.fail(api.ErrShape)
	}
	// Here n is the count that was read, or there is an error and nothing is taken.
	front, _ := r.take(n)
	list := make([]int8, len(front))
	for i := range list {
		list[i] = int8(front[i])
	}
	return list
}

// End tells what went wrong first, also that bytes are left.
func (r *Reader) End() api.Errno {
	if !r.failed() && r.left != "" {
		return api.ErrMore
	}
	return r.first
}
