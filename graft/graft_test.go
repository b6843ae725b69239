package graft

import (
	"math"
	"math/big"
	"slices"
	"strconv"
	"strings"
	"testing"

	"aviary/api"
)

const (
	least = math.MinInt
	most  = math.MaxInt
)

// small is a configuration of one layer, twin one of two, great the one with most weights.
var (
	small = api.Config{Dim: 2, Heads: 1, Layers: 1, Vocab: 2, Hidden: 1}
	twin  = api.Config{Dim: 4, Heads: 2, Layers: 2, Vocab: 3, Hidden: 2, Experts: 2, TopK: 1, Window: 5}
	great = api.Config{Dim: 8, Heads: 4, Layers: 2, Vocab: 16, Hidden: 8, Experts: 4, TopK: 4, Window: 16}
)

// some is right configurations of each Dim and each count of layers.
func some() []api.Config {
	list := []api.Config{small, twin, great}
	for dim := 2; dim <= 8; dim += 2 {
		for layers := 1; layers <= 2; layers++ {
			list = append(list, api.Config{Dim: dim, Heads: dim / 2, Layers: layers, Vocab: 9, Hidden: 3, Window: 1})
		}
	}
	return list
}

// wrong is configurations that are not right, each by one field or two.
func wrong() []api.Config {
	list := []api.Config{{}}
	for _, c := range []api.Config{small, twin, great} {
		for _, n := range []int{least, least + 1, -65536, -2, -1, 17, 65536 + 2, 1 << 32, 1<<32 + 2, 1 << 62, most - 1, most} {
			for place := range 8 {
				list = append(list, with(c, place, n))
			}
		}
		for place, n := range []int{0, 0, 0, 1, 0, 1} {
			list = append(list, with(c, place, n))
		}
		list = append(list, with(c, 0, 3), with(c, 0, 10), with(c, 1, c.Dim), with(c, 2, 3), with(c, 4, 9), with(c, 5, 5), with(c, 6, 5))
	}
	return list
}

// with is a configuration with another number at one of its fields.
func with(c api.Config, place, n int) api.Config {
	fields := []*int{&c.Dim, &c.Heads, &c.Layers, &c.Vocab, &c.Hidden, &c.Experts, &c.TopK, &c.Window}
	*fields[place] = n
	return c
}

// edges is numbers about all bounds, and at the ends of 64 bits (and of fewer).
func edges() []int {
	list := []int{least, least + 1, -1 << 32, -65536, -65535, -256, 255, 256, 257, 258, 65535, 65536, 65537, 65538, 1 << 31, 1 << 32, 1<<32 + 1, 1<<32 + 2, 1 << 61, 1 << 62, 1<<62 + 1, most - 1, most}
	for n := -20; n <= 80; n++ {
		list = append(list, n)
	}
	return list
}

// weights is weights of all kinds, the same ones each time for a seed.
func weights(count int, seed uint64) []int8 {
	list := make([]int8, count)
	state := 88172645463325252 ^ seed<<7
	for i := range list {
		state ^= state << 13
		state ^= state >> 7
		state ^= state << 17
		list[i] = int8(state >> 24)
	}
	return list
}

// build is an adapter that is right for a configuration, made list by list, each with weights of its own.
func build(rank, shift int, c api.Config, seed uint64) api.Adapter {
	next := func() []int8 {
		seed++
		return weights(rank*c.Dim, seed)
	}
	a := api.Adapter{Rank: rank, Shift: shift}
	for range c.Layers {
		a.Layers = append(a.Layers, api.Graft{QA: next(), QB: next(), VA: next(), VB: next()})
	}
	return a
}

// each calls a function with an adapter for some configurations, all ranks and all shifts.
func each(do func(a api.Adapter, c api.Config)) {
	seed := uint64(0)
	for _, c := range some() {
		for rank := 1; rank <= 4; rank++ {
			for shift := 0; shift <= 8; shift++ {
				seed += 16
				do(build(rank, shift, c, seed), c)
			}
		}
	}
}

// named is pointers to all lists of an adapter, by their names.
func named(a *api.Adapter) map[string]*[]int8 {
	all := map[string]*[]int8{}
	for i := range a.Layers {
		g := &a.Layers[i]
		at := "layer " + strconv.Itoa(i) + " "
		all[at+"QA"], all[at+"QB"], all[at+"VA"], all[at+"VB"] = &g.QA, &g.QB, &g.VA, &g.VB
	}
	return all
}

// same tells whether two adapters are the same, where an empty list is as good as none.
func same(a, b api.Adapter) bool {
	layer := func(x, y api.Graft) bool {
		return slices.Equal(x.QA, y.QA) && slices.Equal(x.QB, y.QB) && slices.Equal(x.VA, y.VA) && slices.Equal(x.VB, y.VB)
	}
	return a.Rank == b.Rank && a.Shift == b.Shift && slices.EqualFunc(a.Layers, b.Layers, layer)
}

// few is a list as it is told in an error: long ones by their first members.
func few[T any](list []T) []T {
	return list[:min(len(list), 12)]
}

// short is the same of a text.
func short(s string) string {
	return s[:min(len(s), 24)]
}

// wantSize is Layers times 4 times the rank times Dim.
func wantSize(rank int, c api.Config) int {
	return c.Layers * 4 * rank * c.Dim
}

// wantFlat puts an adapter's lists behind one another, as the chapter tells their order.
func wantFlat(a api.Adapter) []int8 {
	var w []int8
	for _, g := range a.Layers {
		w = slices.Concat(w, g.QA, g.QB, g.VA, g.VB)
	}
	return w
}

// two is a number's two bytes.
func two(n int) string {
	return string([]byte{byte(n % 256), byte(n / 256)})
}

// seal puts the check sum behind a text.
func seal(s string) string {
	a, b := 0, 0
	for _, c := range []byte(s) {
		a = (a + int(c)) % 255
		b = (b + a) % 255
	}
	return s + string([]byte{byte(a), byte(b)})
}

// head is the letters and the numbers of an adapter.
func head(rank, shift int) string {
	return "GR" + two(rank) + two(shift)
}

// counted is weights' bytes behind their count.
func counted(w []int8) string {
	list := []byte(two(len(w)))
	for _, n := range w {
		list = append(list, byte(int(n)&255))
	}
	return string(list)
}

// wantBytes is an adapter's bytes, put together here.
func wantBytes(a api.Adapter) string {
	return seal(head(a.Rank, a.Shift) + counted(wantFlat(a)))
}

// clamp is chapter 1's.
func clamp(x int64) int64 {
	return max(-1<<31, min(x, 1<<31-1))
}

// wantShift divides by 2^n with numbers of any size, a half away from 0.
func wantShift(x int64, n int) int64 {
	n = max(0, min(n, 62))
	size := new(big.Int).Abs(big.NewInt(x))
	size.Lsh(size, 1)
	size.Add(size, new(big.Int).Lsh(big.NewInt(1), uint(n)))
	size.Rsh(size, uint(n)+1)
	if x < 0 {
		size.Neg(size)
	}
	return size.Int64()
}

// wantMat is a matrix's products with a row; no sum of so few products leaves 64 bits.
func wantMat(w []int8, rows int, x []int64) []int64 {
	var list []int64
	for i := range rows {
		var sum int64
		for j, n := range x {
			sum += int64(w[i*len(x)+j]) * clamp(n)
		}
		list = append(list, clamp(wantShift(sum, 6)))
	}
	return list
}

// wantApply is the chapter's of matrices that fit.
func wantApply(a, b []int8, rank, shift int, x []int64) []int64 {
	list := wantMat(b, len(x), wantMat(a, rank, x))
	for i, n := range list {
		list[i] = wantShift(n, shift)
	}
	return list
}

func checkFlat(t *testing.T, a api.Adapter, c api.Config, want []int8) {
	t.Helper()
	if w := Flat(a, c); !slices.Equal(w, want) {
		t.Errorf("Flat of an adapter of rank %d for %+v: %d weights, %v, not %d, %v", a.Rank, c, len(w), few(w), len(want), few(want))
	}
}

func checkShape(t *testing.T, rank, shift int, c api.Config, w []int8, want api.Adapter) {
	t.Helper()
	if a, e := Shape(rank, shift, c, w); e != api.OK || !same(a, want) {
		t.Errorf("Shape(%d, %d, %+v) of %d weights: %+v, error %d, not %+v", rank, shift, c, len(w), a, e, want)
	}
}

func refuseShape(t *testing.T, rank, shift int, c api.Config, w []int8, want api.Errno) {
	t.Helper()
	if a, e := Shape(rank, shift, c, w); e != want || !same(a, api.Adapter{}) {
		t.Errorf("Shape(%d, %d, %+v) of %d weights: %+v, error %d, not error %d and nothing", rank, shift, c, len(w), a, e, want)
	}
}

func checkEncode(t *testing.T, a api.Adapter, c api.Config, want string) {
	t.Helper()
	if s, e := Encode(a, c); e != api.OK || s != want {
		t.Errorf("Encode of an adapter of rank %d for %+v: %d bytes, %x, error %d, not %d bytes, %x", a.Rank, c, len(s), short(s), e, len(want), short(want))
	}
}

func checkDecode(t *testing.T, s string, c api.Config, want api.Adapter) {
	t.Helper()
	if a, e := Decode(s, c); e != api.OK || !same(a, want) {
		t.Errorf("Decode of %d bytes, %x, for %+v: %+v, error %d, not %+v", len(s), short(s), c, a, e, want)
	}
}

func refuseDecode(t *testing.T, s string, c api.Config, why string) {
	t.Helper()
	if a, e := Decode(s, c); e != api.Malformed || !same(a, api.Adapter{}) {
		t.Errorf("Decode of %d bytes, %x, for %+v (%s): %+v, error %d, not Malformed and nothing", len(s), short(s), c, why, a, e)
	}
}

func checkApply(t *testing.T, a, b []int8, rank, shift int, x, want []int64) {
	t.Helper()
	if list, e := Apply(a, b, rank, shift, x); e != api.OK || !slices.Equal(list, want) {
		t.Errorf("Apply(%v, %v, %d, %d, %v): %v, error %d, not %v", few(a), few(b), rank, shift, few(x), few(list), e, few(want))
	}
}

func refuseApply(t *testing.T, a, b []int8, rank, shift int, x []int64) {
	t.Helper()
	if list, e := Apply(a, b, rank, shift, x); e != api.ErrShape || len(list) != 0 {
		t.Errorf("Apply of %d and %d weights, rank %d, shift %d, to %d numbers: %v, error %d, not ErrShape and nothing", len(a), len(b), rank, shift, len(x), few(list), e)
	}
}

// accept is held against all functions that are handed an adapter that is right.
func accept(t *testing.T, a api.Adapter, c api.Config) {
	t.Helper()
	if e := Check(a, c); e != api.OK {
		t.Errorf("Check of an adapter of rank %d and shift %d for %+v: error %d, not OK", a.Rank, a.Shift, c, e)
	}
	checkFlat(t, a, c, wantFlat(a))
	checkEncode(t, a, c, wantBytes(a))
}

// refuse is held against all functions that are handed an adapter that is not right.
func refuse(t *testing.T, a api.Adapter, c api.Config, want api.Errno, why string) {
	t.Helper()
	if e := Check(a, c); e != want {
		t.Errorf("Check of rank %d, shift %d, %d layers for %+v (%s): error %d, not %d", a.Rank, a.Shift, len(a.Layers), c, why, e, want)
	}
	if w := Flat(a, c); len(w) != 0 {
		t.Errorf("Flat of rank %d, shift %d, %d layers for %+v (%s): %d weights, not nothing", a.Rank, a.Shift, len(a.Layers), c, why, len(w))
	}
	if s, e := Encode(a, c); e != want || s != "" {
		t.Errorf("Encode of rank %d, shift %d, %d layers for %+v (%s): %x, error %d, not error %d and nothing", a.Rank, a.Shift, len(a.Layers), c, why, short(s), e, want)
	}
}

// 10.1, 10.2: adapters that are right, of all ranks and shifts.
func TestRight(t *testing.T) {
	each(func(a api.Adapter, c api.Config) { accept(t, a, c) })
}

// 10.1, 10.2: a configuration that is not right is ErrRange, whatever the adapter is.
func TestWrongConfig(t *testing.T) {
	for _, c := range wrong() {
		for _, right := range []api.Config{small, twin, great} {
			refuse(t, build(2, 3, right, 1), c, api.ErrRange, "its configuration")
		}
		refuse(t, api.Adapter{}, c, api.ErrRange, "its configuration, and nothing in it")
		refuse(t, api.Adapter{Rank: 1}, c, api.ErrRange, "its configuration, and no layers")
		refuse(t, api.Adapter{Rank: least, Shift: most}, c, api.ErrRange, "its configuration, rank and shift")
	}
}

// 10.1, 10.2: Rank from 1 to 4, and ErrRange outside, whether the lists fit or not.
func TestRankBounds(t *testing.T) {
	for _, c := range []api.Config{small, twin, great} {
		for _, rank := range edges() {
			if rank >= 1 && rank <= 4 {
				accept(t, build(rank, 8, c, 2), c)
				continue
			}
			a := build(2, 0, c, 2)
			a.Rank = rank
			refuse(t, a, c, api.ErrRange, "its rank, with lists of another one")
			refuse(t, api.Adapter{Rank: rank}, c, api.ErrRange, "its rank, with no layers")
			if rank >= 0 && rank <= 80 {
				refuse(t, build(rank, 0, c, 2), c, api.ErrRange, "its rank, with lists of it")
			}
		}
	}
}

// 10.1, 10.2: Shift from 0 to 8, and ErrRange outside, whether the lists fit or not.
func TestShiftBounds(t *testing.T) {
	for _, c := range []api.Config{small, twin, great} {
		for _, shift := range edges() {
			a := build(4, shift, c, 3)
			if shift >= 0 && shift <= 8 {
				accept(t, a, c)
				continue
			}
			refuse(t, a, c, api.ErrRange, "its shift")
			a.Layers = nil
			refuse(t, a, c, api.ErrRange, "its shift, with no layers")
		}
	}
}

// 10.1, 10.2: layers too few and too many.
func TestWrongLayers(t *testing.T) {
	for _, c := range []api.Config{small, twin, great} {
		whole := build(3, 2, c, 4)
		for count := range 6 {
			a := api.Adapter{Rank: 3, Shift: 2}
			for i := range count {
				a.Layers = append(a.Layers, whole.Layers[i%c.Layers])
			}
			if count != c.Layers {
				refuse(t, a, c, api.ErrShape, strconv.Itoa(count)+" layers")
			}
		}
		a := whole
		a.Layers = append(slices.Clone(whole.Layers), api.Graft{})
		refuse(t, a, c, api.ErrShape, "an empty layer behind the others")
		a.Layers = make([]api.Graft, 100000)
		refuse(t, a, c, api.ErrShape, "very many layers")
		a.Layers = a.Layers[:c.Layers]
		refuse(t, a, c, api.ErrShape, "empty layers")
	}
}

// 10.1, 10.2: each list too short and too long, in each layer.
func TestWrongLists(t *testing.T) {
	changes := map[string]func([]int8) []int8{
		"one too few":  func(w []int8) []int8 { return w[:len(w)-1] },
		"one too many": func(w []int8) []int8 { return append(w, 0) },
		"none":         func(w []int8) []int8 { return nil },
		"twice":        func(w []int8) []int8 { return slices.Concat(w, w) },
		"very many":    func(w []int8) []int8 { return make([]int8, 100000) },
	}
	for _, c := range []api.Config{small, twin, great} {
		for rank := 1; rank <= 4; rank++ {
			for name := range named(new(build(rank, 1, c, 5))) {
				for what, change := range changes {
					a := build(rank, 1, c, 5)
					list := named(&a)[name]
					*list = change(*list)
					refuse(t, a, c, api.ErrShape, name+": "+what)
				}
			}
		}
	}
}

// 10.1, 10.2: weights that are missing in one list and stand in another one: the sum is right, the adapter is not.
func TestShiftedLists(t *testing.T) {
	a := build(2, 0, twin, 6)
	g := &a.Layers[1]
	g.QA, g.QB = g.QA[:7], append(slices.Clone(g.QB), 1)
	refuse(t, a, twin, api.ErrShape, "from QA to QB")
	a = build(2, 0, twin, 6)
	a.Layers[0].VB, a.Layers[1].VB = a.Layers[0].VB[:7], append(slices.Clone(a.Layers[1].VB), 1)
	refuse(t, a, twin, api.ErrShape, "from layer to layer")
}

// 10.1, 10.2: an adapter of another configuration or of another rank.
func TestOtherConfig(t *testing.T) {
	refuse(t, build(1, 0, small, 7), twin, api.ErrShape, "small for twin")
	refuse(t, build(1, 0, twin, 7), small, api.ErrShape, "twin for small")
	refuse(t, build(2, 0, small, 7), with(small, 0, 4), api.ErrShape, "another Dim")
	refuse(t, build(2, 0, small, 7), with(small, 2, 2), api.ErrShape, "another count of layers")
	for rank := 1; rank <= 4; rank++ {
		for other := 1; other <= 4; other++ {
			a := build(rank, 0, great, 7)
			a.Rank = other
			if rank != other {
				refuse(t, a, great, api.ErrShape, "another rank")
			}
		}
	}
	// What does not tell the lists' lengths may be another one.
	accept(t, build(2, 0, small, 7), with(with(with(small, 3, 16), 4, 8), 7, 16))
	// Twice the Dim and half the rank have lists of one length.
	a := build(4, 0, small, 7)
	a.Rank = 2
	accept(t, a, with(small, 0, 4))
}

// 10.1: the order of all weights, written out, with two layers.
func TestFlatOrder(t *testing.T) {
	c := with(small, 2, 2)
	a := api.Adapter{Rank: 2, Shift: 5, Layers: []api.Graft{
		{QA: []int8{0, 1, 2, 3}, QB: []int8{4, 5, 6, 7}, VA: []int8{8, 9, 10, 11}, VB: []int8{12, 13, 14, 15}},
		{QA: []int8{16, 17, 18, 19}, QB: []int8{20, 21, 22, 23}, VA: []int8{24, 25, 26, 27}, VB: []int8{28, 29, 30, 31}},
	}}
	w := make([]int8, 32)
	for i := range w {
		w[i] = int8(i)
	}
	checkFlat(t, a, c, w)
	checkShape(t, 2, 5, c, w, a)
}

// 10.1: Shape of as many weights as there are.
func TestShape(t *testing.T) {
	each(func(a api.Adapter, c api.Config) { checkShape(t, a.Rank, a.Shift, c, wantFlat(a), a) })
}

// 10.1: a configuration, a rank or a shift that is not right is ErrRange, however many weights there are.
func TestShapeRange(t *testing.T) {
	counts := []int{0, 1, 8, wantSize(2, twin), wantSize(4, great), 100000}
	for _, c := range wrong() {
		for _, count := range counts {
			refuseShape(t, 1, 0, c, make([]int8, count), api.ErrRange)
		}
	}
	for _, c := range []api.Config{small, twin, great} {
		for _, n := range edges() {
			for _, count := range append(counts, wantSize(max(0, min(n, 80)), c)) {
				if n < 1 || n > 4 {
					refuseShape(t, n, 0, c, make([]int8, count), api.ErrRange)
				}
				if n < 0 || n > 8 {
					refuseShape(t, 2, n, c, make([]int8, count), api.ErrRange)
				}
			}
		}
	}
}

// 10.1: a weight too few, one too many, none, very many.
func TestShapeCounts(t *testing.T) {
	for _, c := range some() {
		for rank := 1; rank <= 4; rank++ {
			size := wantSize(rank, c)
			for _, count := range []int{0, 1, size / c.Layers / 4, size - 1, size + 1, 2 * size, 65536 + size} {
				refuseShape(t, rank, 8, c, weights(count, 8), api.ErrShape)
			}
		}
	}
}

// 10.2: bytes that are written out, with their check sums.
func TestBytesWrittenOut(t *testing.T) {
	a := api.Adapter{Rank: 1, Shift: 3, Layers: []api.Graft{{QA: []int8{1, 2}, QB: []int8{-1, 4}, VA: []int8{127, -128}, VB: []int8{0, 8}}}}
	s := "GR\x01\x00\x03\x00\x08\x00\x01\x02\xff\x04\x7f\x80\x00\x08\xb4\x7b"
	checkEncode(t, a, small, s)
	checkDecode(t, s, small, a)
	zero := api.Adapter{Rank: 1, Layers: []api.Graft{{QA: []int8{0, 0}, QB: []int8{0, 0}, VA: []int8{0, 0}, VB: []int8{0, 0}}}}
	s = "GR\x01\x00\x00\x00\x08\x00\x00\x00\x00\x00\x00\x00\x00\x00\xa2\xa5"
	checkEncode(t, zero, small, s)
	checkDecode(t, s, small, zero)
	// Two layers of Dim 8 and rank 4 have 256 weights: their count needs the higher byte.
	long, e := Encode(build(4, 8, great, 9), great)
	if e != api.OK || len(long) != 2+4+2+256+2 || long[:8] != "GR\x04\x00\x08\x00\x00\x01" {
		t.Errorf("Encode of 256 weights: %d bytes, %x, error %d", len(long), short(long), e)
	}
}

// 10.2: Decode of the bytes of adapters of all kinds.
func TestDecode(t *testing.T) {
	each(func(a api.Adapter, c api.Config) { checkDecode(t, wantBytes(a), c, a) })
}

// 10.2: a configuration that is not right is Malformed, whatever the text is.
func TestDecodeConfig(t *testing.T) {
	texts := []string{"", seal(""), seal("GR"), seal(head(1, 0) + counted(nil)), seal(head(0, 0) + counted(nil))}
	for _, right := range []api.Config{small, twin, great} {
		texts = append(texts, wantBytes(build(1, 0, right, 10)), wantBytes(build(4, 8, right, 10)))
	}
	for _, c := range wrong() {
		for _, s := range texts {
			refuseDecode(t, s, c, "its configuration")
		}
		if n := wantSize(1, c); c.Dim > 0 && c.Dim < 100 && c.Layers > 0 && c.Layers < 100 {
			refuseDecode(t, seal(head(1, 0)+counted(make([]int8, n))), c, "its configuration, with weights of it")
		}
	}
}

// 10.2: the bytes of an adapter that is right for another configuration.
func TestDecodeOtherConfig(t *testing.T) {
	for i, c := range some() {
		for j, other := range some() {
			a := build(2, 1, other, uint64(i*16+j))
			if c.Dim == other.Dim && c.Layers == other.Layers {
				checkDecode(t, wantBytes(a), c, a)
			} else if c.Dim*c.Layers != other.Dim*other.Layers {
				refuseDecode(t, wantBytes(a), c, "for another configuration")
			}
		}
	}
	// One layer of Dim 4 has as many weights as two of Dim 2: the same bytes are those of either.
	s := seal(head(1, 0) + counted([]int8{1, 2, 3, 4, 5, 6, 7, 8, 9, 10, 11, 12, 13, 14, 15, 16}))
	checkDecode(t, s, with(small, 0, 4), api.Adapter{Rank: 1, Layers: []api.Graft{
		{QA: []int8{1, 2, 3, 4}, QB: []int8{5, 6, 7, 8}, VA: []int8{9, 10, 11, 12}, VB: []int8{13, 14, 15, 16}}}})
	checkDecode(t, s, with(small, 2, 2), api.Adapter{Rank: 1, Layers: []api.Graft{
		{QA: []int8{1, 2}, QB: []int8{3, 4}, VA: []int8{5, 6}, VB: []int8{7, 8}},
		{QA: []int8{9, 10}, QB: []int8{11, 12}, VA: []int8{13, 14}, VB: []int8{15, 16}}}})
}

// 10.2: texts that are cut short at each place, at either end, as they are and sealed anew.
func TestDecodeCut(t *testing.T) {
	for _, c := range []api.Config{small, twin, great} {
		s := wantBytes(build(4, 7, c, 11))
		for end := range len(s) {
			refuseDecode(t, s[:end], c, "cut short")
			refuseDecode(t, s[end+1:], c, "its beginning is cut off")
			refuseDecode(t, s[:end]+s[end+1:], c, "one byte is missing")
			if end != len(s)-2 {
				refuseDecode(t, seal(s[:end]), c, "cut short, and sealed")
			}
		}
	}
}

// 10.2: texts with more behind them, ahead of them, or in them.
func TestDecodeMore(t *testing.T) {
	for _, c := range []api.Config{small, twin, great} {
		s := wantBytes(build(3, 1, c, 12))
		body := s[:len(s)-2]
		for _, more := range []string{"\x00", "\x01", "\xff", "\x00\x00", "GR", body, s, strings.Repeat("\x00", 300)} {
			refuseDecode(t, s+more, c, "more behind it")
			refuseDecode(t, seal(body+more), c, "more behind it, and sealed")
			refuseDecode(t, seal(s+more), c, "more behind it, sealed twice")
			refuseDecode(t, more+s, c, "more ahead of it")
			refuseDecode(t, seal(more+body), c, "more ahead of it, and sealed")
		}
		refuseDecode(t, seal(s), c, "sealed twice")
		for place := range body {
			refuseDecode(t, seal(body[:place]+"\x07"+body[place:]), c, "one byte more in it")
		}
	}
}

// 10.2: other letters.
func TestDecodeLetters(t *testing.T) {
	s := wantBytes(build(1, 0, small, 13))
	body := s[2 : len(s)-2]
	for a := range 256 {
		for b := range 256 {
			if a != 'G' || b != 'R' {
				refuseDecode(t, seal(string([]byte{byte(a), byte(b)})+body), small, "other letters")
			}
		}
	}
	for _, first := range []string{"", "G", "R", "GRG", "GRR", "G R", "GR\x00", "\x00GR", "AV"} {
		refuseDecode(t, seal(first+body), small, "other letters")
	}
}

// 10.2: a rank or a shift that is not right, with weights of any count.
func TestDecodeNumbers(t *testing.T) {
	for _, c := range []api.Config{small, twin, great} {
		for _, n := range edges() {
			if n < 0 || n > 65535 {
				continue
			}
			counts := []int{0, 8, wantSize(1, c), wantSize(4, c)}
			if n <= 80 {
				counts = append(counts, wantSize(n, c))
			}
			// The count that is left of this rank's within two bytes.
			counts = append(counts, wantSize(n, c)%65536%16000)
			for _, count := range counts {
				w := counted(make([]int8, count))
				if n < 1 || n > 4 {
					refuseDecode(t, seal(head(n, 0)+w), c, "rank "+strconv.Itoa(n))
				}
				if n > 8 {
					refuseDecode(t, seal(head(1, n)+w), c, "shift "+strconv.Itoa(n))
				}
			}
		}
	}
	// Their higher bytes count, too.
	w := counted(make([]int8, 8))
	refuseDecode(t, seal("GR\x01\x01\x00\x00"+w), small, "rank 257")
	refuseDecode(t, seal("GR\x01\x00\x00\x01"+w), small, "shift 256")
	refuseDecode(t, seal("GR\x00\x01\x00\x00"+w), small, "rank 256")
}

// 10.2: a count that is not the configuration's and the rank's, with as many weights as it tells, and with as many as there would be.
func TestDecodeCount(t *testing.T) {
	for _, c := range []api.Config{small, twin, great} {
		for rank := 1; rank <= 4; rank++ {
			size := wantSize(rank, c)
			w := weights(size, 14)
			first := head(rank, 2)
			for _, count := range []int{0, 1, size / 4, size - 1, size + 1, size + 256, 2 * size} {
				refuseDecode(t, seal(first+counted(weights(count, 15))), c, "another count")
				refuseDecode(t, seal(first+two(count)+counted(w)[2:]), c, "another count of the same weights")
				refuseDecode(t, seal(first+two(size)+counted(weights(count, 15))[2:]), c, "other weights than are counted")
			}
			refuseDecode(t, seal(first), c, "no weights")
			refuseDecode(t, seal(first+"\xff\xff"), c, "a count alone")
			for other := 1; other <= 4; other++ {
				if other != rank {
					refuseDecode(t, seal(head(other, 2)+counted(w)), c, "another rank")
				}
			}
		}
	}
}

// 10.2: the empty text, texts that are no adapter's at all, and texts of more than MaxBytes.
func TestDecodeOdd(t *testing.T) {
	for _, s := range []string{"", "\x00", "\x00\x00", "G", "GR", seal("GR"), seal("G"), seal(""), "aviary", seal("aviary"), "ä"} {
		refuseDecode(t, s, small, "no adapter's")
	}
	for _, count := range []int{16, 1 << 14, 1<<14 + 1, 1 << 15, 1<<16 + 34, 1 << 20} {
		refuseDecode(t, strings.Repeat("\x00", count), small, "zeros")
		refuseDecode(t, seal(strings.Repeat("G", count)), small, "letters")
	}
	s := wantBytes(build(1, 1, small, 16))
	for _, total := range []int{1<<14 - 1, 1 << 14, 1<<14 + 1, 1 << 18} {
		filled := s[:len(s)-2] + strings.Repeat("\x00", total-len(s))
		refuseDecode(t, seal(filled), small, "filled up")
	}
	// Ranks whose weights fill just more bytes, and none of which is right.
	for _, rank := range []int{255, 256, 1023, 1024, 8191} {
		refuseDecode(t, seal(head(rank, 0)+counted(make([]int8, wantSize(rank, small)))), small, "a rank of that many weights")
	}
}

// 10.2, and 8.3: one byte that is another one is Malformed, but for a weight's 0 and 255, which are the same to the sum.
func TestDecodeChanged(t *testing.T) {
	a := build(1, 2, small, 17)
	a.Layers[0].VB = []int8{0, -1}
	s := wantBytes(a)
	first, end := len(head(1, 2))+2, len(s)-2
	for place := range s {
		for n := range 256 {
			if byte(n) == s[place] {
				continue
			}
			changed := s[:place] + string([]byte{byte(n)}) + s[place+1:]
			if place >= first && place < end && n%255 == 0 && s[place]%255 == 0 {
				w := wantFlat(a)
				w[place-first] = int8(n)
				if x, e := Decode(changed, small); e != api.OK || !slices.Equal(wantFlat(x), w) {
					t.Errorf("Decode with the byte %d for %d at %d: error %d", n, s[place], place, e)
				}
			} else {
				refuseDecode(t, changed, small, "byte "+strconv.Itoa(place)+" is "+strconv.Itoa(n))
			}
		}
	}
}

// 10.2: a check sum that is wrong.
func TestDecodeSum(t *testing.T) {
	s := wantBytes(build(2, 8, small, 18))
	body, sum := s[:len(s)-2], s[len(s)-2:]
	for n := range 65536 {
		if two(n) != sum {
			refuseDecode(t, body+two(n), small, "another check sum")
		}
	}
}

// 10.2: the chapter's example, and some that are reckoned by hand.
func TestApplyExamples(t *testing.T) {
	checkApply(t, []int8{64, 0}, []int8{64, 64}, 1, 1, []int64{65536, 9}, []int64{32768, 32768})
	// Half of the first one and all of the second one: 5 + 7 is 12, and -12; a quarter of these.
	checkApply(t, []int8{32, 64}, []int8{64, -64}, 1, 2, []int64{10, 7}, []int64{3, -3})
	// Two rows: 1 and 20, then 1 + 20 and 20 - 1; a half of these is rounded away from 0.
	checkApply(t, []int8{64, 0, 0, 64}, []int8{64, 64, -64, 64}, 2, 1, []int64{1, 20}, []int64{11, 10})
	checkApply(t, []int8{64, 0, 0, 64}, []int8{-64, -64, 64, -64}, 2, 1, []int64{1, 20}, []int64{-11, -10})
	// b's rows are of the rank, not of x's length: three rows of one member, and three of two.
	checkApply(t, []int8{64, 64, 64}, []int8{64, -128, 32}, 1, 0, []int64{1, 2, 3}, []int64{6, -12, 3})
	checkApply(t, []int8{64, 0, 0, 0, 0, 64}, []int8{64, 0, 0, 64, 64, 64}, 2, 0, []int64{1, 2, 3}, []int64{1, 3, 4})
	// What comes of a is rounded already: 1 divided by 2 is 1, and stays it.
	checkApply(t, []int8{32}, []int8{64}, 1, 0, []int64{1}, []int64{1})
	checkApply(t, []int8{31}, []int8{127}, 1, 0, []int64{1}, []int64{0})
	checkApply(t, []int8{32}, []int8{64}, 1, 1, []int64{-1}, []int64{-1})
}

// 10.2: matrices of all sizes, and beyond an adapter's.
func TestApply(t *testing.T) {
	seed := uint64(0)
	for _, width := range []int{1, 2, 3, 4, 6, 8, 9, 40} {
		for _, rank := range []int{1, 2, 3, 4, 5, 17} {
			for shift := 0; shift <= 12; shift++ {
				seed++
				a, b := weights(rank*width, seed), weights(width*rank, seed<<16)
				x := make([]int64, width)
				for i, n := range weights(width, seed<<32) {
					x[i] = int64(n)*977 + int64(i)
				}
				checkApply(t, a, b, rank, shift, x, wantApply(a, b, rank, shift, x))
			}
		}
	}
}

// 10.2: shifts at the edges: below 0 is as 0, above 62 as 62.
func TestApplyShifts(t *testing.T) {
	a, b := []int8{64, 0}, []int8{64, -64}
	for _, x := range []int64{0, 1, 2, 3, 65536, 1<<31 - 1} {
		for _, shift := range edges() {
			checkApply(t, a, b, 1, shift, []int64{x, 9}, []int64{wantShift(x, shift), -wantShift(x, shift)})
		}
		for _, shift := range []int{least, -1, 0} {
			checkApply(t, a, b, 1, shift, []int64{x, 9}, []int64{x, -x})
		}
		for _, shift := range []int{33, 62, 63, 64, most} {
			checkApply(t, a, b, 1, shift, []int64{x, 9}, []int64{0, 0})
		}
	}
	checkApply(t, a, b, 1, 31, []int64{1 << 30, 0}, []int64{1, -1})
	checkApply(t, a, b, 1, 32, []int64{1 << 30, 0}, []int64{0, 0})
}

// 10.2: products that are clamped: in what is handed in, in what comes of a, in what comes of b.
func TestApplyClamped(t *testing.T) {
	const high, low = 1<<31 - 1, -1 << 31
	checkApply(t, []int8{127}, []int8{127}, 1, 0, []int64{high}, []int64{high})
	checkApply(t, []int8{-128}, []int8{-128}, 1, 0, []int64{low}, []int64{low})
	checkApply(t, []int8{-128}, []int8{127}, 1, 0, []int64{low}, []int64{high})
	// Half of what is clamped ahead: it would be nearly twice as much otherwise.
	checkApply(t, []int8{127}, []int8{32}, 1, 0, []int64{high}, []int64{1 << 30})
	checkApply(t, []int8{64, 64}, []int8{32, -32}, 1, 0, []int64{high, high}, []int64{1 << 30, -1 << 30})
	// What comes of b is clamped ahead of the shift.
	checkApply(t, []int8{64}, []int8{127}, 1, 1, []int64{high}, []int64{1 << 30})
	checkApply(t, []int8{64}, []int8{127}, 1, 1, []int64{low}, []int64{-1 << 30})
	checkApply(t, []int8{64}, []int8{-128}, 1, 8, []int64{low}, []int64{1 << 23})
	// Numbers beyond 32 bits are clamped first.
	for _, n := range []int64{high + 1, 1 << 40, math.MaxInt64} {
		checkApply(t, []int8{1}, []int8{64}, 1, 0, []int64{n}, []int64{1 << 25})
		checkApply(t, []int8{1}, []int8{64}, 1, 0, []int64{-n}, []int64{-1 << 25})
		checkApply(t, []int8{1, 1}, []int8{64, 32}, 1, 0, []int64{n, math.MinInt64}, []int64{0, 0})
	}
	seed := uint64(0)
	for _, n := range []int64{high, low, high - 1, low + 1, math.MaxInt64, math.MinInt64, 1 << 30} {
		for rank := 1; rank <= 4; rank++ {
			seed++
			a, b := weights(rank*8, seed), weights(8*rank, seed<<16)
			x := []int64{n, n, n, 0, 1, -n, n / 2, n}
			checkApply(t, a, b, rank, int(seed)%9, x, wantApply(a, b, rank, int(seed)%9, x))
		}
	}
}

// 10.2: vec.Mat's errors of a, rank and x.
func TestApplyFirst(t *testing.T) {
	for width := 1; width <= 8; width++ {
		x := make([]int64, width)
		for rank := 1; rank <= 4; rank++ {
			b := make([]int8, width*rank)
			for _, count := range []int{0, width*rank - 1, width*rank + 1, width * (rank + 1), width * (rank - 1), 100000 * width} {
				refuseApply(t, make([]int8, count), b, rank, 1, x)
			}
		}
	}
	// No numbers, with and without weights.
	for _, rank := range []int{least, -1, 0, 1, 4, most} {
		for _, a := range [][]int8{nil, {}, {64}, {1, 2, 3, 4}} {
			refuseApply(t, a, nil, rank, 0, nil)
			refuseApply(t, a, a, rank, 0, []int64{})
		}
	}
	// Ranks whose product with the width would come round to the count.
	for _, rank := range edges() {
		for _, width := range []int{1, 2, 4, 8} {
			a := make([]int8, 2*width)
			if rank != 2 {
				refuseApply(t, a, a, rank, 0, make([]int64, width))
				refuseApply(t, nil, nil, rank, 0, make([]int64, width))
			}
		}
	}
}

// 10.2: vec.Mat's errors of b, as many rows as x has members, and what came of a.
func TestApplySecond(t *testing.T) {
	for width := 1; width <= 8; width++ {
		x := make([]int64, width)
		for rank := 1; rank <= 4; rank++ {
			a := make([]int8, rank*width)
			for _, count := range []int{0, 1, width*rank - 1, width*rank + 1, width * (rank + 1), (width + 1) * rank, 100000 * rank} {
				if count != width*rank {
					refuseApply(t, a, make([]int8, count), rank, 1, x)
				}
			}
		}
		// With the rank 0 a may have no weights, but nothing comes of it for b.
		for _, b := range [][]int8{nil, {}, {1}, make([]int8, width)} {
			refuseApply(t, nil, b, 0, 0, x)
		}
	}
}

// 10.3: Shape of Flat is the adapter, Flat of Shape the weights.
func TestThereAndBack(t *testing.T) {
	each(func(a api.Adapter, c api.Config) {
		checkShape(t, a.Rank, a.Shift, c, Flat(a, c), a)
		w := weights(wantSize(a.Rank, c), 19)
		x, e := Shape(a.Rank, a.Shift, c, w)
		if e != api.OK || Check(x, c) != api.OK {
			t.Errorf("Shape(%d, %d, %+v): error %d, Check %d", a.Rank, a.Shift, c, e, Check(x, c))
		}
		checkFlat(t, x, c, w)
	})
}

// 10.3: Decode of Encode is the adapter, Encode of Decode the bytes.
func TestBytesAndBack(t *testing.T) {
	each(func(a api.Adapter, c api.Config) {
		s, e := Encode(a, c)
		if e != api.OK {
			t.Errorf("Encode of an adapter of rank %d for %+v: error %d", a.Rank, c, e)
		}
		checkDecode(t, s, c, a)
		s = seal(head(a.Rank, a.Shift) + counted(weights(wantSize(a.Rank, c), 20)))
		x, e := Decode(s, c)
		if e != api.OK || Check(x, c) != api.OK {
			t.Errorf("Decode of bytes of rank %d for %+v: error %d, Check %d", a.Rank, c, e, Check(x, c))
		}
		checkEncode(t, x, c, s)
	})
}

// 10.3: with each weight there is, at each place.
func TestEachWeight(t *testing.T) {
	for n := -128; n <= 127; n++ {
		w := make([]int8, 16)
		for place := range w {
			w[place] = int8(n + place)
		}
		a, _ := Shape(2, 4, small, w)
		s, _ := Encode(a, small)
		checkDecode(t, s, small, a)
		if x, _ := Decode(s, small); !slices.Equal(Flat(x, small), w) {
			t.Errorf("weights %v are read as %v", w, Flat(x, small))
		}
	}
}

// 10.3: Apply with weights 0, of either matrix or of both, is all 0.
func TestApplyNought(t *testing.T) {
	for width := 1; width <= 8; width++ {
		x := make([]int64, width)
		for i := range x {
			x[i] = []int64{math.MaxInt64, math.MinInt64, 1, -1, 65536}[i%5]
		}
		zero := make([]int64, width)
		for rank := 1; rank <= 4; rank++ {
			none, a := make([]int8, rank*width), weights(rank*width, 21)
			for _, shift := range []int{least, -1, 0, 1, 8, 62, most} {
				checkApply(t, none, none, rank, shift, x, zero)
				checkApply(t, none, a, rank, shift, x, zero)
				checkApply(t, a, none, rank, shift, x, zero)
				checkApply(t, a, a, rank, shift, zero, zero)
			}
		}
	}
}

// roomy is a list with spare room behind its end, filled so that a change to it shows.
func roomy[T any](list []T, fill T) []T {
	room := append(slices.Clone(list), fill, fill, fill, fill)
	return room[:len(list)]
}

// filled tells whether that room is still as it was.
func filled[T comparable](list []T, fill T) bool {
	return slices.Equal(list[len(list):len(list)+4], []T{fill, fill, fill, fill})
}

// roomyAdapter has such room behind each of its lists.
func roomyAdapter(c api.Config, seed uint64) api.Adapter {
	a := build(3, 6, c, seed)
	for _, list := range named(&a) {
		*list = roomy(*list, 77)
	}
	a.Layers = roomy(a.Layers, api.Graft{QA: []int8{7}})
	return a
}

// untouched tells whether a roomy adapter is as it was made, also behind its lists' ends.
func untouched(a api.Adapter, c api.Config, seed uint64) bool {
	if !same(a, build(3, 6, c, seed)) {
		return false
	}
	for _, list := range named(&a) {
		if !filled(*list, 77) {
			return false
		}
	}
	for _, g := range a.Layers[len(a.Layers) : len(a.Layers)+4] {
		if !slices.Equal(g.QA, []int8{7}) || g.QB != nil || g.VA != nil || g.VB != nil {
			return false
		}
	}
	return true
}

// R4: adapters and lists that are handed in are as they were afterwards, also behind their ends.
func TestNothingChanged(t *testing.T) {
	for _, c := range []api.Config{small, twin, great} {
		a := roomyAdapter(c, 22)
		Check(a, c)
		w := roomy(Flat(a, c), 77)
		Encode(a, c)
		if !untouched(a, c, 22) {
			t.Errorf("the adapter for %+v was changed", c)
		}
		held := slices.Clone(w)
		Shape(3, 6, c, w)
		Shape(3, 6, c, w[:len(w)-1])
		Shape(4, 6, c, w)
		if !slices.Equal(w, held) || !filled(w, 77) {
			t.Errorf("the weights for %+v were changed", c)
		}
	}
	w, v, x := roomy([]int8{64, -3, 5, 127}, 77), roomy([]int8{1, 2, -128, 4}, 77), roomy([]int64{math.MaxInt64, -9}, 77)
	Apply(w, v, 2, 3, x)
	Apply(w, v, 1, 3, x)
	Apply(w, v[:3], 2, 3, x)
	if !slices.Equal(w, []int8{64, -3, 5, 127}) || !slices.Equal(v, []int8{1, 2, -128, 4}) || !slices.Equal(x, []int64{math.MaxInt64, -9}) {
		t.Errorf("Apply changed %v, %v or %v", w, v, x)
	}
	if !filled(w, 77) || !filled(v, 77) || !filled(x, 77) {
		t.Errorf("Apply changed what lies behind a list's end")
	}
}

// R4: what was answered stays as it is when what was handed in is changed, and the other way round.
func TestAnswersAreNew(t *testing.T) {
	for _, c := range []api.Config{small, twin, great} {
		a := roomyAdapter(c, 23)
		w, again := Flat(a, c), Flat(a, c)
		want := slices.Clone(w)
		clear(again)
		if !untouched(a, c, 23) || !slices.Equal(w, want) {
			t.Errorf("for %+v: weights share memory with the adapter, or with one another", c)
		}
		for _, list := range named(&a) {
			clear(*list)
		}
		if !slices.Equal(w, want) {
			t.Errorf("for %+v: the weights share memory with the adapter", c)
		}

		first, _ := Shape(3, 6, c, w)
		second, _ := Shape(3, 6, c, w)
		for _, list := range named(&first) {
			clear(*list)
			_ = append(*list, 1, 1, 1, 1)
		}
		first.Layers[0] = api.Graft{}
		if !slices.Equal(w, want) || !slices.Equal(wantFlat(second), want) {
			t.Errorf("for %+v: adapters share memory with the weights, or with one another", c)
		}
		clear(w)
		if !slices.Equal(wantFlat(second), want) {
			t.Errorf("for %+v: the adapter shares memory with the weights", c)
		}
	}
}

// R4: what Apply answers shares no memory with the numbers, or with another answer.
func TestRowsAreNew(t *testing.T) {
	unit, x := []int8{64, 0, 0, 64}, []int64{5, 7}
	first, _ := Apply(unit, unit, 2, 0, x)
	second, _ := Apply(unit, unit, 2, 0, x)
	clear(first)
	if !slices.Equal(x, []int64{5, 7}) || !slices.Equal(second, []int64{5, 7}) {
		t.Errorf("an answer shares memory: %v, %v", x, second)
	}
	clear(x)
	if !slices.Equal(second, []int64{5, 7}) {
		t.Errorf("an answer shares memory with the numbers: %v", second)
	}
}

// R4: no two lists of an adapter share memory, neither within their ends nor behind them.
func TestListsAreApart(t *testing.T) {
	for _, c := range []api.Config{small, twin, great} {
		want := build(3, 6, c, 24)
		shaped, _ := Shape(3, 6, c, wantFlat(want))
		decoded, _ := Decode(wantBytes(want), c)
		for _, a := range []api.Adapter{shaped, decoded} {
			all, whole := named(&a), named(&want)
			for name, list := range all {
				_ = append(*list, 99, 99, 99, 99, 99, 99, 99, 99)
				for i := range *list {
					(*list)[i]++
				}
				for other := range all {
					if other != name && !slices.Equal(*all[other], *whole[other]) {
						t.Errorf("for %+v: %s shares memory with %s", c, name, other)
					}
				}
				for i := range *list {
					(*list)[i]--
				}
			}
			if !same(a, want) {
				t.Errorf("for %+v: the adapter is not as it was", c)
			}
		}
	}
}
