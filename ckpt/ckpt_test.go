package ckpt

import (
	"math"
	"slices"
	"strconv"
	"strings"
	"testing"

	"aviary/api"
)

const (
	least = math.MinInt
	most  = math.MaxInt
)

// small is the chapter's example, twin one with two experts and two layers.
var (
	small = api.Config{Dim: 2, Heads: 1, Layers: 1, Vocab: 2, Hidden: 1}
	twin  = api.Config{Dim: 4, Heads: 2, Layers: 2, Vocab: 3, Hidden: 2, Experts: 2, TopK: 1, Window: 5}
	great = api.Config{Dim: 8, Heads: 4, Layers: 2, Vocab: 16, Hidden: 8, Experts: 4, TopK: 4, Window: 16}
)

// heads is all right pairs of Dim and Heads, experts those of Experts and TopK, written out.
var (
	heads   = [][2]int{{2, 1}, {4, 1}, {4, 2}, {6, 1}, {6, 3}, {8, 1}, {8, 2}, {8, 4}}
	experts = [][2]int{{0, 0}, {2, 1}, {2, 2}, {3, 1}, {3, 2}, {3, 3}, {4, 1}, {4, 2}, {4, 3}, {4, 4}}
)

// edges is numbers about all bounds, and at the ends of 64 bits (and of fewer).
func edges() []int {
	list := []int{least, least + 1, -1 << 32, -65536, -256, 250, 256, 257, 258, 65535, 65536, 65537, 65538, 1 << 31, 1 << 32, 1<<32 + 2, 1 << 62, most - 1, most}
	for n := -20; n <= 40; n++ {
		list = append(list, n)
	}
	return list
}

// every is all right configurations, of windows some.
func every() []api.Config {
	var list []api.Config
	for _, h := range heads {
		for _, x := range experts {
			for vocab := 2; vocab <= 16; vocab++ {
				for hidden := 1; hidden <= 8; hidden++ {
					c := api.Config{Dim: h[0], Heads: h[1], Vocab: vocab, Hidden: hidden, Experts: x[0], TopK: x[1], Window: (vocab * hidden) % 17}
					for c.Layers = 1; c.Layers <= 2; c.Layers++ {
						list = append(list, c)
					}
				}
			}
		}
	}
	return list
}

// some is right configurations of all kinds, fewer than every one.
func some() []api.Config {
	list := []api.Config{small, twin, great}
	all := every()
	for i := 0; i < len(all); i += 97 {
		list = append(list, all[i])
	}
	return list
}

// wrong is configurations that are not right, each by one field.
func wrong() []api.Config {
	var list []api.Config
	for _, c := range []api.Config{small, twin, great} {
		for place := range 8 {
			for _, n := range edges() {
				if x := with(c, place, n); !wantConfig(x) {
					list = append(list, x)
				}
			}
		}
	}
	return list
}

// with is a configuration with another number at one of its fields.
func with(c api.Config, place, n int) api.Config {
	switch place {
	case 0:
		c.Dim = n
	case 1:
		c.Heads = n
	case 2:
		c.Layers = n
	case 3:
		c.Vocab = n
	case 4:
		c.Hidden = n
	case 5:
		c.Experts = n
	case 6:
		c.TopK = n
	case 7:
		c.Window = n
	}
	return c
}

// weights is weights of all kinds, the same ones each time for a seed.
func weights(count int, seed uint64) []int8 {
	list := make([]int8, count)
	state := 88172645463325252 ^ seed<<7
	for i := range list {
		state ^= state << 13
		state ^= state >> 7
		state ^= state << 17
		list[i] = int8(state >> 24)
	}
	return list
}

// build is a model of a right configuration, made list by list, each with weights of its own.
func build(c api.Config, seed uint64) api.Model {
	next := func(count int) []int8 {
		seed++
		return weights(count, seed)
	}
	nets := c.Experts
	if nets == 0 {
		nets = 1
	}
	m := api.Model{Config: c, Embed: next(c.Vocab * c.Dim), Norm: next(c.Dim), Out: next(c.Vocab * c.Dim)}
	for range c.Layers {
		l := api.Layer{Norm1: next(c.Dim), Norm2: next(c.Dim), Router: next(c.Experts * c.Dim)}
		l.Q, l.K, l.V, l.O = next(c.Dim*c.Dim), next(c.Dim*c.Dim), next(c.Dim*c.Dim), next(c.Dim*c.Dim)
		for range nets {
			l.Up, l.Down = append(l.Up, next(c.Hidden*c.Dim)), append(l.Down, next(c.Dim*c.Hidden))
		}
		m.Layers = append(m.Layers, l)
	}
	return m
}

// lists is pointers to all lists of a model, by their names.
func lists(m *api.Model) map[string]*[]int8 {
	named := map[string]*[]int8{"Embed": &m.Embed, "Norm": &m.Norm, "Out": &m.Out}
	for i := range m.Layers {
		l := &m.Layers[i]
		at := "layer " + strconv.Itoa(i) + " "
		named[at+"Norm1"], named[at+"Norm2"], named[at+"Router"] = &l.Norm1, &l.Norm2, &l.Router
		named[at+"Q"], named[at+"K"], named[at+"V"], named[at+"O"] = &l.Q, &l.K, &l.V, &l.O
		for j := range l.Up {
			named[at+"Up "+strconv.Itoa(j)] = &l.Up[j]
		}
		for j := range l.Down {
			named[at+"Down "+strconv.Itoa(j)] = &l.Down[j]
		}
	}
	return named
}

// same tells whether two models are the same, where an empty list is as good as none.
func same(a, b api.Model) bool {
	layer := func(x, y api.Layer) bool {
		return slices.Equal(x.Norm1, y.Norm1) && slices.Equal(x.Q, y.Q) && slices.Equal(x.K, y.K) &&
			slices.Equal(x.V, y.V) && slices.Equal(x.O, y.O) && slices.Equal(x.Norm2, y.Norm2) && slices.Equal(x.Router, y.Router) &&
			slices.EqualFunc(x.Up, y.Up, slices.Equal[[]int8]) && slices.EqualFunc(x.Down, y.Down, slices.Equal[[]int8])
	}
	return a.Config == b.Config && slices.Equal(a.Embed, b.Embed) && slices.EqualFunc(a.Layers, b.Layers, layer) &&
		slices.Equal(a.Norm, b.Norm) && slices.Equal(a.Out, b.Out)
}

// few is a list as it is told in an error: long ones by their first members.
func few[T any](list []T) []T {
	return list[:min(len(list), 12)]
}

// short is the same of a text.
func short(s string) string {
	return s[:min(len(s), 24)]
}

// wantConfig looks the pairs up that are written out above.
func wantConfig(c api.Config) bool {
	return slices.Contains(heads, [2]int{c.Dim, c.Heads}) && slices.Contains(experts, [2]int{c.Experts, c.TopK}) &&
		(c.Layers == 1 || c.Layers == 2) && c.Vocab > 1 && c.Vocab < 17 && c.Hidden > 0 && c.Hidden < 9 && c.Window > -1 && c.Window < 17
}

// wantSize is the chapter's counts in one sum.
func wantSize(c api.Config) int {
	nets := c.Experts
	if nets == 0 {
		nets = 1
	}
	layer := 2*c.Dim + 4*c.Dim*c.Dim + c.Experts*c.Dim + 2*nets*c.Hidden*c.Dim
	return 2*c.Vocab*c.Dim + c.Dim + c.Layers*layer
}

// wantFlat puts a model's lists behind one another, as the chapter tells their order.
func wantFlat(m api.Model) []int8 {
	w := slices.Clone(m.Embed)
	for _, l := range m.Layers {
		w = slices.Concat(w, l.Norm1, l.Q, l.K, l.V, l.O, l.Norm2, l.Router)
		for j := range l.Up {
			w = slices.Concat(w, l.Up[j], l.Down[j])
		}
	}
	return slices.Concat(w, m.Norm, m.Out)
}

// two is a number's two bytes.
func two(n int) string {
	return string([]byte{byte(n % 256), byte(n / 256)})
}

// seal puts the check sum behind a text.
func seal(s string) string {
	a, b := 0, 0
	for _, c := range []byte(s) {
		a = (a + int(c)) % 255
		b = (b + a) % 255
	}
	return s + string([]byte{byte(a), byte(b)})
}

// head is the letters and the numbers of a configuration.
func head(c api.Config) string {
	return "AV" + two(c.Dim) + two(c.Heads) + two(c.Layers) + two(c.Vocab) + two(c.Hidden) + two(c.Experts) + two(c.TopK) + two(c.Window)
}

// counted is weights' bytes behind their count.
func counted(w []int8) string {
	list := []byte(two(len(w)))
	for _, n := range w {
		list = append(list, byte(int(n)&255))
	}
	return string(list)
}

// wantBytes is a model's bytes, put together here.
func wantBytes(m api.Model) string {
	return seal(head(m.Config) + counted(wantFlat(m)))
}

func checkConfig(t *testing.T, c api.Config, want bool) {
	t.Helper()
	if right := Config(c); right != want {
		t.Errorf("Config(%+v): %t, not %t", c, right, want)
	}
}

func checkSize(t *testing.T, c api.Config, want int) {
	t.Helper()
	if n := Size(c); n != want {
		t.Errorf("Size(%+v): %d, not %d", c, n, want)
	}
}

func checkFlat(t *testing.T, m api.Model, want []int8) {
	t.Helper()
	if w := Flat(m); !slices.Equal(w, want) {
		t.Errorf("Flat of a model of %+v: %d weights, %v, not %d, %v", m.Config, len(w), few(w), len(want), few(want))
	}
}

func checkShape(t *testing.T, c api.Config, w []int8, want api.Model) {
	t.Helper()
	if m, e := Shape(c, w); e != api.OK || !same(m, want) {
		t.Errorf("Shape(%+v) of %d weights: %+v, error %d, not %+v", c, len(w), m, e, want)
	}
}

func refuseShape(t *testing.T, c api.Config, w []int8, want api.Errno) {
	t.Helper()
	if m, e := Shape(c, w); e != want || !same(m, api.Model{}) {
		t.Errorf("Shape(%+v) of %d weights: %+v, error %d, not error %d and nothing", c, len(w), m, e, want)
	}
}

func checkEncode(t *testing.T, m api.Model, want string) {
	t.Helper()
	if s, e := Encode(m); e != api.OK || s != want {
		t.Errorf("Encode of a model of %+v: %d bytes, %x, error %d, not %d bytes, %x", m.Config, len(s), short(s), e, len(want), short(want))
	}
}

func checkDecode(t *testing.T, s string, want api.Model) {
	t.Helper()
	if m, e := Decode(s); e != api.OK || !same(m, want) {
		t.Errorf("Decode of %d bytes, %x: %+v, error %d, not %+v", len(s), short(s), m, e, want)
	}
}

func refuseDecode(t *testing.T, s, why string) {
	t.Helper()
	if m, e := Decode(s); e != api.Malformed || !same(m, api.Model{}) {
		t.Errorf("Decode of %d bytes, %x (%s): %+v, error %d, not Malformed and nothing", len(s), short(s), why, m, e)
	}
}

// refuse is held against all functions that are handed a model that is not right.
func refuse(t *testing.T, m api.Model, want api.Errno, why string) {
	t.Helper()
	if e := Check(m); e != want {
		t.Errorf("Check of %+v (%s): error %d, not %d", m, why, e, want)
	}
	if w := Flat(m); len(w) != 0 {
		t.Errorf("Flat of %+v (%s): %d weights, not nothing", m, why, len(w))
	}
	if s, e := Encode(m); e != want || s != "" {
		t.Errorf("Encode of %+v (%s): %x, error %d, not error %d and nothing", m, why, short(s), e, want)
	}
}

// 9.1: each field just within its bounds, just outside them, and far from them.
func TestConfigFields(t *testing.T) {
	bounds := []struct{ place, low, high int }{{2, 1, 2}, {3, 2, 16}, {4, 1, 8}, {7, 0, 16}}
	for _, c := range []api.Config{small, twin, great} {
		checkConfig(t, c, true)
		for _, b := range bounds {
			for _, n := range []int{b.low, b.high} {
				checkConfig(t, with(c, b.place, n), true)
			}
			for _, n := range []int{b.low - 1, b.high + 1, least, most} {
				checkConfig(t, with(c, b.place, n), false)
			}
		}
		for place := range 8 {
			for _, n := range edges() {
				x := with(c, place, n)
				checkConfig(t, x, wantConfig(x))
			}
		}
	}
}

// 9.1: Dim is 2, 4, 6 or 8, and divided by Heads it is an even whole number.
func TestConfigHeads(t *testing.T) {
	c := small
	for _, pair := range [][2]int{{0, 1}, {1, 1}, {3, 1}, {5, 1}, {7, 1}, {9, 1}, {10, 1}, {10, 5}, {-2, 1}, {-2, -1}, {2, -1}, {2, 0}, {2, 2}, {4, 3}, {4, 4}, {6, 2}, {6, 4}, {6, 6}, {8, 3}, {8, 8}, {8, 16}, {0, 0}, {least, least}, {least, -1}, {least, 1}, {2, least}, {most, 1}, {2, most}, {most - 1, 1}} {
		c.Dim, c.Heads = pair[0], pair[1]
		checkConfig(t, c, false)
	}
	for _, dim := range edges() {
		for _, n := range edges() {
			c.Dim, c.Heads = dim, n
			checkConfig(t, c, slices.Contains(heads, [2]int{dim, n}))
		}
	}
}

// 9.1: Experts 0, or 2 to 4; TopK 0 without experts, else from 1 to Experts.
func TestConfigExperts(t *testing.T) {
	c := small
	for _, pair := range [][2]int{{0, 1}, {0, -1}, {1, 0}, {1, 1}, {2, 0}, {2, 3}, {2, -1}, {3, 4}, {3, 0}, {4, 0}, {4, 5}, {5, 0}, {5, 1}, {5, 5}, {-1, 0}, {-1, -1}, {least, 0}, {least, 1}, {most, 0}, {most, 1}, {0, least}, {0, most}, {4, least}, {4, most}} {
		c.Experts, c.TopK = pair[0], pair[1]
		checkConfig(t, c, false)
	}
	for _, n := range edges() {
		for _, k := range edges() {
			c.Experts, c.TopK = n, k
			checkConfig(t, c, slices.Contains(experts, [2]int{n, k}))
		}
	}
}

// 9.1: all right configurations are.
func TestConfigRight(t *testing.T) {
	for _, c := range every() {
		checkConfig(t, c, true)
	}
	checkConfig(t, api.Config{}, false)
}

// 9.1: the chapter's example, and one with experts, counted by hand.
func TestSizeExamples(t *testing.T) {
	checkSize(t, small, 34)
	two := small
	two.Layers = 2
	checkSize(t, two, 34+24)
	// Embed 12; twice 4, 64, 4, Router 8, and twice 8 and 8; Norm 4; Out 12.
	checkSize(t, twin, 12+2*(4+64+4+8+32)+4+12)
	checkSize(t, great, 1896)
}

// 9.1: Size of all right configurations, and 0 of those that are not.
func TestSize(t *testing.T) {
	for _, c := range every() {
		checkSize(t, c, wantSize(c))
	}
	for _, c := range append(wrong(), api.Config{}) {
		checkSize(t, c, 0)
	}
}

// 9.1: right models, with lists that are nil or empty where none belongs.
func TestCheckRight(t *testing.T) {
	for i, c := range some() {
		if e := Check(build(c, uint64(i))); e != api.OK {
			t.Errorf("Check of a right model of %+v: error %d", c, e)
		}
	}
	for _, router := range [][]int8{nil, {}} {
		m := build(small, 1)
		m.Layers[0].Router = router
		if e := Check(m); e != api.OK {
			t.Errorf("Check of a model without a router: error %d", e)
		}
	}
}

// 9.1, 9.2: a configuration that is not right is ErrRange, whatever the lists are.
func TestWrongConfig(t *testing.T) {
	for _, c := range wrong() {
		for _, m := range []api.Model{build(small, 1), build(twin, 2), {}} {
			m.Config = c
			refuse(t, m, api.ErrRange, "its configuration")
		}
	}
	refuse(t, api.Model{}, api.ErrRange, "nothing in it")
}

// 9.1, 9.2: a right configuration with the lists of another one.
func TestOtherConfig(t *testing.T) {
	refuse(t, api.Model{Config: small}, api.ErrShape, "a configuration alone")
	for place, n := range map[int]int{0: 4, 2: 2, 3: 3, 4: 2} {
		m := build(small, 3)
		m.Config = with(small, place, n)
		refuse(t, m, api.ErrShape, "field "+strconv.Itoa(place))
	}
	m := build(small, 4)
	m.Config.Experts, m.Config.TopK = 2, 1
	refuse(t, m, api.ErrShape, "experts")
	// Three experts' lists, where the configuration says two.
	more := twin
	more.Experts = 3
	m = build(more, 5)
	m.Config = twin
	refuse(t, m, api.ErrShape, "an expert too many")
}

// 9.1, 9.2: layers too few and too many.
func TestWrongLayers(t *testing.T) {
	for _, c := range []api.Config{small, twin, great} {
		whole := build(c, 6)
		for count := range 6 {
			m := whole
			m.Layers = nil
			for i := range count {
				m.Layers = append(m.Layers, whole.Layers[i%c.Layers])
			}
			if count != c.Layers {
				refuse(t, m, api.ErrShape, strconv.Itoa(count)+" layers")
			}
		}
		m := whole
		m.Layers = append(slices.Clone(whole.Layers), api.Layer{})
		refuse(t, m, api.ErrShape, "an empty layer behind the others")
		m.Layers = make([]api.Layer, 100000)
		refuse(t, api.Model{Config: c, Layers: m.Layers[:c.Layers]}, api.ErrShape, "empty layers")
		if e := Check(m); e != api.ErrShape {
			t.Errorf("Check of a model of very many layers: error %d", e)
		}
	}
}

// 9.1, 9.2: each list too short and too long, also those within Up and Down.
func TestWrongLists(t *testing.T) {
	for _, c := range []api.Config{small, twin, great} {
		for name := range lists(new(build(c, 7))) {
			changes := map[string]func([]int8) []int8{
				"one too many": func(w []int8) []int8 { return append(w, 0) },
				"twice":        func(w []int8) []int8 { return slices.Concat(w, w, []int8{1}) },
				"very many":    func(w []int8) []int8 { return make([]int8, 100000) },
			}
			if !strings.HasSuffix(name, "Router") || c.Experts > 0 {
				changes["one too few"] = func(w []int8) []int8 { return w[:len(w)-1] }
				changes["none"] = func(w []int8) []int8 { return nil }
			}
			for what, change := range changes {
				m := build(c, 7)
				list := lists(&m)[name]
				*list = change(*list)
				refuse(t, m, api.ErrShape, name+": "+what)
			}
		}
	}
}

// 9.1, 9.2: weights that are missing in one list and stand in the next one: the sum is right, the model is not.
func TestShiftedLists(t *testing.T) {
	m := build(twin, 8)
	l := &m.Layers[1]
	l.Q, l.K = l.Q[:15], append(slices.Clone(l.K), 1)
	refuse(t, m, api.ErrShape, "from Q to K")
	m = build(twin, 8)
	l = &m.Layers[0]
	l.Up[0], l.Up[1] = l.Up[0][:7], append(slices.Clone(l.Up[1]), 1)
	refuse(t, m, api.ErrShape, "from Up to Up")
	m = build(twin, 8)
	l = &m.Layers[0]
	l.Up, l.Down = append(l.Up, l.Down[1]), l.Down[:1]
	refuse(t, m, api.ErrShape, "from Down to Up")
}

// 9.1, 9.2: an Up and a Down with lists too few and too many, in each layer.
func TestWrongNetworks(t *testing.T) {
	for _, c := range []api.Config{small, twin, great} {
		for i := range c.Layers {
			for what, change := range map[string]func([][]int8) [][]int8{
				"one list too few":  func(w [][]int8) [][]int8 { return w[:len(w)-1] },
				"one list too many": func(w [][]int8) [][]int8 { return append(w, w[0]) },
				"an empty list":     func(w [][]int8) [][]int8 { return append(w, nil) },
				"no list":           func(w [][]int8) [][]int8 { return nil },
			} {
				m := build(c, 9)
				m.Layers[i].Up = change(m.Layers[i].Up)
				refuse(t, m, api.ErrShape, "Up: "+what)
				m = build(c, 9)
				m.Layers[i].Down = change(m.Layers[i].Down)
				refuse(t, m, api.ErrShape, "Down: "+what)
				m = build(c, 9)
				m.Layers[i].Up, m.Layers[i].Down = change(m.Layers[i].Up), change(m.Layers[i].Down)
				refuse(t, m, api.ErrShape, "Up and Down: "+what)
			}
		}
	}
}

// 9.2: the order of all weights, written out: with two experts Up, Down, Up, Down.
func TestFlatOrder(t *testing.T) {
	c := api.Config{Dim: 2, Heads: 1, Layers: 2, Vocab: 2, Hidden: 1, Experts: 2, TopK: 2}
	m := api.Model{Config: c, Embed: []int8{0, 1, 2, 3}, Norm: []int8{68, 69}, Out: []int8{70, 71, 72, 73}}
	for at := int8(4); at < 68; at += 32 {
		run := func(from, count int8) []int8 {
			var list []int8
			for n := range count {
				list = append(list, at+from+n)
			}
			return list
		}
		m.Layers = append(m.Layers, api.Layer{
			Norm1: run(0, 2), Q: run(2, 4), K: run(6, 4), V: run(10, 4), O: run(14, 4), Norm2: run(18, 2), Router: run(20, 4),
			Up: [][]int8{run(24, 2), run(28, 2)}, Down: [][]int8{run(26, 2), run(30, 2)},
		})
	}
	w := make([]int8, 74)
	for i := range w {
		w[i] = int8(i)
	}
	checkSize(t, c, 74)
	checkFlat(t, m, w)
	checkShape(t, c, w, m)
}

// 9.2: Flat of models of all kinds, also of all the right configurations' counts.
func TestFlat(t *testing.T) {
	for i, c := range some() {
		m := build(c, uint64(i)<<8)
		checkFlat(t, m, wantFlat(m))
	}
}

// 9.2: Shape of as many weights as there are.
func TestShape(t *testing.T) {
	for i, c := range some() {
		m := build(c, uint64(i)<<8)
		checkShape(t, c, wantFlat(m), m)
	}
}

// 9.2: a weight too few, one too many, none, very many.
func TestShapeCounts(t *testing.T) {
	for _, c := range some() {
		size := wantSize(c)
		for _, count := range []int{0, 1, size - 1, size + 1, 2 * size, 65536 + size} {
			refuseShape(t, c, weights(count, 10), api.ErrShape)
		}
	}
}

// 9.2: a configuration that is not right is ErrRange, however many weights there are.
func TestShapeConfig(t *testing.T) {
	for _, c := range append(wrong(), api.Config{}) {
		for _, count := range []int{0, 1, 34, wantSize(twin), 100000} {
			refuseShape(t, c, make([]int8, count), api.ErrRange)
		}
	}
}

// 9.2: the example's bytes, written out, and those of models of all kinds.
func TestEncode(t *testing.T) {
	m := build(small, 11)
	for i, name := range []string{"Embed", "layer 0 Norm1", "layer 0 Q", "layer 0 K", "layer 0 V", "layer 0 O", "layer 0 Norm2", "layer 0 Up 0", "layer 0 Down 0", "Norm", "Out"} {
		list := *lists(&m)[name]
		for j := range list {
			list[j] = int8(i - 5)
		}
	}
	text := "AV\x02\x00\x01\x00\x01\x00\x02\x00\x01\x00\x00\x00\x00\x00\x00\x00\x22\x00" +
		"\xfb\xfb\xfb\xfb\xfc\xfc\xfd\xfd\xfd\xfd\xfe\xfe\xfe\xfe\xff\xff\xff\xff\x00\x00\x00\x00\x01\x01\x02\x02\x03\x03\x04\x04\x05\x05\x05\x05"
	checkEncode(t, m, seal(text))
	for i, c := range some() {
		m := build(c, uint64(i)<<8)
		checkEncode(t, m, wantBytes(m))
	}
}

// 9.2: Decode of the bytes of models of all kinds.
func TestDecode(t *testing.T) {
	for i, c := range some() {
		m := build(c, uint64(i)<<8)
		checkDecode(t, wantBytes(m), m)
	}
}

// 9.2: texts that are cut short at each place, at either end, as they are and sealed anew.
func TestDecodeCut(t *testing.T) {
	for _, c := range []api.Config{small, twin} {
		s := wantBytes(build(c, 12))
		for end := range len(s) {
			refuseDecode(t, s[:end], "cut short")
			refuseDecode(t, s[end+1:], "its beginning is cut off")
			refuseDecode(t, s[:end]+s[end+1:], "one byte is missing")
			if end != len(s)-2 {
				refuseDecode(t, seal(s[:end]), "cut short, and sealed")
			}
		}
	}
}

// 9.2: texts with more behind them, ahead of them, or in them.
func TestDecodeMore(t *testing.T) {
	for _, c := range []api.Config{small, twin} {
		s := wantBytes(build(c, 13))
		body := s[:len(s)-2]
		for _, more := range []string{"\x00", "\x01", "\xff", "\x00\x00", "AV", body, s, strings.Repeat("\x00", 300)} {
			refuseDecode(t, s+more, "more behind it")
			refuseDecode(t, seal(body+more), "more behind it, and sealed")
			refuseDecode(t, seal(s+more), "more behind it, sealed twice")
			refuseDecode(t, more+s, "more ahead of it")
			refuseDecode(t, seal(more+body), "more ahead of it, and sealed")
		}
		refuseDecode(t, seal(s), "sealed twice")
		for place := range body {
			refuseDecode(t, seal(body[:place]+"\x07"+body[place:]), "one byte more in it")
		}
	}
}

// 9.2: other letters.
func TestDecodeLetters(t *testing.T) {
	s := wantBytes(build(small, 14))
	body := s[2 : len(s)-2]
	for a := range 256 {
		for b := range 256 {
			if a != 'A' || b != 'V' {
				refuseDecode(t, seal(string([]byte{byte(a), byte(b)})+body), "other letters")
			}
		}
	}
	for _, first := range []string{"", "A", "V", "AVA", "AVV", "A V", "AV\x00", "\x00AV"} {
		refuseDecode(t, seal(first+body), "other letters")
	}
}

// 9.2: numbers that are no right configuration, with weights of any count.
func TestDecodeConfig(t *testing.T) {
	for _, c := range append(wrong(), api.Config{}) {
		fits := true
		for _, n := range []int{c.Dim, c.Heads, c.Layers, c.Vocab, c.Hidden, c.Experts, c.TopK, c.Window} {
			fits = fits && n >= 0 && n < 65536
		}
		if !fits {
			continue
		}
		for _, count := range []int{0, 34, wantSize(twin), wantSize(great)} {
			refuseDecode(t, seal(head(c)+counted(make([]int8, count))), "no right configuration")
		}
		if n := wantSize(c); n > 0 && n < api.MaxBytes {
			refuseDecode(t, seal(head(c)+counted(make([]int8, n))), "no right configuration")
		}
	}
}

// 9.2: a count that is not Size, with as many weights as it tells, and with as many as there would be.
func TestDecodeCount(t *testing.T) {
	for _, c := range []api.Config{small, twin, great} {
		size := wantSize(c)
		w := weights(size, 15)
		for _, count := range []int{0, 1, size - 1, size + 1, size + 256, 2 * size} {
			refuseDecode(t, seal(head(c)+counted(weights(count, 16))), "another count")
			refuseDecode(t, seal(head(c)+two(count)+counted(w)[2:]), "another count of the same weights")
			if count != size {
				refuseDecode(t, seal(head(c)+two(size)+counted(weights(count, 16))[2:]), "other weights than are counted")
			}
		}
		refuseDecode(t, seal(head(c)), "no weights")
		refuseDecode(t, seal(head(c)+"\xff\xff"), "a count alone")
	}
}

// 9.2, and 8.3: one byte that is another one is Malformed, but for a weight's 0 and 255, which are the same to the sum.
func TestDecodeChanged(t *testing.T) {
	m := build(small, 17)
	m.Out = []int8{0, -1, 0, -1}
	s := wantBytes(m)
	first, end := len(head(small))+2, len(s)-2
	for place := range s {
		for n := range 256 {
			if byte(n) == s[place] {
				continue
			}
			changed := s[:place] + string([]byte{byte(n)}) + s[place+1:]
			if place >= first && place < end && n%255 == 0 && s[place]%255 == 0 {
				w := wantFlat(m)
				w[place-first] = int8(n)
				if x, e := Decode(changed); e != api.OK || !slices.Equal(wantFlat(x), w) {
					t.Errorf("Decode with the byte %d for %d at %d: error %d", n, s[place], place, e)
				}
			} else {
				refuseDecode(t, changed, "byte "+strconv.Itoa(place)+" is "+strconv.Itoa(n))
			}
		}
	}
}

// 9.2: a check sum that is wrong.
func TestDecodeSum(t *testing.T) {
	s := wantBytes(build(small, 18))
	body, sum := s[:len(s)-2], s[len(s)-2:]
	for n := range 65536 {
		if two(n) != sum {
			refuseDecode(t, body+two(n), "another check sum")
		}
	}
}

// 9.2: other numbers that are right, and of the same Size, are another right model's.
func TestDecodeOtherNumbers(t *testing.T) {
	c := api.Config{Dim: 8, Heads: 1, Layers: 1, Vocab: 4, Hidden: 3, Experts: 4, TopK: 1}
	m := build(c, 19)
	for _, other := range []api.Config{with(c, 1, 2), with(c, 1, 4), with(c, 6, 4), with(c, 7, 16), with(c, 7, 1)} {
		m.Config = other
		checkDecode(t, seal(head(other)+counted(wantFlat(m))), m)
	}
}

// 9.2: the empty text, texts that are no model's at all, and texts of more than MaxBytes.
func TestDecodeOdd(t *testing.T) {
	for _, s := range []string{"", "\x00", "\x00\x00", "A", "AV", seal("AV"), seal("A"), seal(""), "aviary", seal("aviary"), "ä"} {
		refuseDecode(t, s, "no model's")
	}
	for _, count := range []int{16, 1 << 14, 1<<14 + 1, 1 << 15, 1<<16 + 34, 1 << 20} {
		refuseDecode(t, strings.Repeat("\x00", count), "zeros")
		refuseDecode(t, seal(strings.Repeat("A", count)), "letters")
	}
	s := wantBytes(build(small, 20))
	for _, total := range []int{1<<14 - 1, 1 << 14, 1<<14 + 1, 1 << 18} {
		filled := s[:len(s)-2] + strings.Repeat("\x00", total-len(s))
		refuseDecode(t, seal(filled), "filled up")
	}
}

// 9.3: Shape of Flat is the model, Flat of Shape the weights.
func TestThereAndBack(t *testing.T) {
	for i, c := range some() {
		m := build(c, uint64(i)<<8)
		checkShape(t, c, Flat(m), m)
		w := weights(wantSize(c), uint64(i))
		if x, e := Shape(c, w); e != api.OK || Check(x) != api.OK {
			t.Errorf("Shape(%+v): error %d, Check %d", c, e, Check(x))
		} else {
			checkFlat(t, x, w)
		}
	}
}

// 9.3: Decode of Encode is the model, Encode of Decode the bytes.
func TestBytesAndBack(t *testing.T) {
	for i, c := range some() {
		m := build(c, uint64(i)<<8)
		s, e := Encode(m)
		if e != api.OK {
			t.Errorf("Encode of a model of %+v: error %d", c, e)
		}
		checkDecode(t, s, m)
		s = seal(head(c) + counted(weights(wantSize(c), uint64(i))))
		x, e := Decode(s)
		if e != api.OK || Check(x) != api.OK {
			t.Errorf("Decode of bytes of %+v: error %d, Check %d", c, e, Check(x))
		}
		checkEncode(t, x, s)
	}
}

// 9.3: with each weight there is, at each place.
func TestEachWeight(t *testing.T) {
	for n := -128; n <= 127; n++ {
		w := make([]int8, 34)
		for place := range w {
			w[place] = int8(n + place)
		}
		m, _ := Shape(small, w)
		s, _ := Encode(m)
		checkDecode(t, s, m)
		if x, _ := Decode(s); !slices.Equal(Flat(x), w) {
			t.Errorf("weights %v are read as %v", w, Flat(x))
		}
	}
}

// roomy is a list with spare room behind its end, filled so that a change to it shows.
func roomy[T any](list []T, fill T) []T {
	room := append(slices.Clone(list), fill, fill, fill, fill)
	return room[:len(list)]
}

// roomyModel has such room behind each of its lists.
func roomyModel(c api.Config, seed uint64) api.Model {
	m := build(c, seed)
	for _, list := range lists(&m) {
		*list = roomy(*list, 77)
	}
	for i := range m.Layers {
		m.Layers[i].Up, m.Layers[i].Down = roomy(m.Layers[i].Up, []int8{7}), roomy(m.Layers[i].Down, []int8{7})
	}
	m.Layers = roomy(m.Layers, api.Layer{Norm1: []int8{7}})
	return m
}

// untouched tells whether a roomy model is as it was made, also behind its lists' ends.
func untouched(m api.Model, c api.Config, seed uint64) bool {
	if !same(m, build(c, seed)) {
		return false
	}
	sevens := []int8{77, 77, 77, 77}
	for _, list := range lists(&m) {
		if !slices.Equal((*list)[len(*list):len(*list)+4], sevens) {
			return false
		}
	}
	for _, l := range m.Layers {
		behind := append(slices.Clone(l.Up[len(l.Up):len(l.Up)+4]), l.Down[len(l.Down):len(l.Down)+4]...)
		for _, list := range behind {
			if !slices.Equal(list, []int8{7}) {
				return false
			}
		}
	}
	for _, l := range m.Layers[len(m.Layers) : len(m.Layers)+4] {
		if !same(api.Model{Layers: []api.Layer{l}}, api.Model{Layers: []api.Layer{{Norm1: []int8{7}}}}) {
			return false
		}
	}
	return true
}

// R4: models and weights that are handed in are as they were afterwards, also behind their ends.
func TestNothingChanged(t *testing.T) {
	for _, c := range []api.Config{small, twin, great} {
		m := roomyModel(c, 21)
		Check(m)
		w := Flat(m)
		Encode(m)
		if !untouched(m, c, 21) {
			t.Errorf("the model of %+v was changed", c)
		}
		w = roomy(w, 77)
		held := slices.Clone(w[:len(w)+4])
		Shape(c, w)
		Shape(c, w[:len(w)-1])
		if !slices.Equal(w[:len(w)+4], held) {
			t.Errorf("the weights of %+v were changed", c)
		}
	}
}

// R4: what was answered stays as it is when what was handed in is changed, and the other way round.
func TestAnswersAreNew(t *testing.T) {
	for _, c := range []api.Config{small, twin, great} {
		m := roomyModel(c, 22)
		w, again := Flat(m), Flat(m)
		want := slices.Clone(w)
		clear(again)
		_ = append(again[:0], make([]int8, len(again))...)
		if !untouched(m, c, 22) || !slices.Equal(w, want) {
			t.Errorf("of %+v: weights share memory with the model, or with one another", c)
		}
		for _, list := range lists(&m) {
			clear(*list)
		}
		if !slices.Equal(w, want) {
			t.Errorf("of %+v: the weights share memory with the model", c)
		}

		a, _ := Shape(c, w)
		b, _ := Shape(c, w)
		for _, list := range lists(&a) {
			clear(*list)
			_ = append(*list, 1, 1, 1, 1)
		}
		a.Layers[0] = api.Layer{}
		if !slices.Equal(w, want) || !slices.Equal(wantFlat(b), want) {
			t.Errorf("of %+v: models share memory with the weights, or with one another", c)
		}
		clear(w)
		if !slices.Equal(wantFlat(b), want) {
			t.Errorf("of %+v: the model shares memory with the weights", c)
		}
	}
}

// R4: no two lists of a model share memory, neither within their ends nor behind them.
func TestListsAreApart(t *testing.T) {
	for _, c := range []api.Config{small, twin, great} {
		want := build(c, 23)
		shaped, _ := Shape(c, wantFlat(want))
		decoded, _ := Decode(wantBytes(want))
		for _, m := range []api.Model{shaped, decoded} {
			named, whole := lists(&m), lists(&want)
			for name, list := range named {
				_ = append(*list, 99, 99, 99, 99, 99, 99, 99, 99)
				for i := range *list {
					(*list)[i]++
				}
				for other := range named {
					if other != name && !slices.Equal(*named[other], *whole[other]) {
						t.Errorf("of %+v: %s shares memory with %s", c, name, other)
					}
				}
				for i := range *list {
					(*list)[i]--
				}
			}
			for i := range m.Layers {
				_ = append(m.Layers[i].Up, nil, nil, nil)
				_ = append(m.Layers[i].Down, nil, nil, nil)
			}
			if !same(m, want) {
				t.Errorf("of %+v: Ups and Downs share memory", c)
			}
		}
	}
}
