package model

import (
	"math"
	"slices"
	"testing"

	"aviary/api"
	"aviary/attn"
	"aviary/ckpt"
	"aviary/expert"
	"aviary/graft"
	"aviary/norm"
	"aviary/turn"
	"aviary/vec"
)

const (
	least = math.MinInt64
	most  = math.MaxInt64
	high  = int64(api.MaxNum)
	low   = int64(api.MinNum)
)

// none is no adapter.
var none = api.Adapter{}

// mixed is numbers of all sizes, the same ones each time for a seed.
func mixed(count int, seed uint64) []int64 {
	list := make([]int64, count)
	state := 88172645463325252 ^ seed<<7
	for i := range list {
		state ^= state << 13
		state ^= state >> 7
		state ^= state << 17
		list[i] = int64(state) >> (state % 61)
	}
	return list
}

// weights is weights of a seed's kind: of all sizes, small ones, the least and greatest ones alone; the same ones each time for a seed.
func weights(count int, seed uint64) []int8 {
	list := make([]int8, count)
	for i, n := range mixed(count, seed) {
		switch seed % 4 {
		case 0, 1:
			list[i] = int8(n)
		case 2:
			list[i] = int8(n % 17)
		default:
			list[i] = []int8{-128, 127, 0, -127, 126, 1, -1}[uint64(n)%7]
		}
	}
	return list
}

// build is a model of a configuration, the same one each time for a seed.
func build(t *testing.T, c api.Config, seed uint64) api.Model {
	t.Helper()
	m, e := ckpt.Shape(c, weights(ckpt.Size(c), seed))
	if e != api.OK {
		t.Fatalf("no model of %+v: error %d", c, e)
	}
	for i := range m.Norm {
		// Most norms are near to one, so that what comes out is of ordinary size.
		if seed%5 != 0 {
			m.Norm[i], m.Layers[0].Norm1[i], m.Layers[0].Norm2[i] = 64, 61, 67
		}
	}
	return m
}

// buildAdapter is an adapter for a configuration, the same one each time for a seed.
func buildAdapter(t *testing.T, c api.Config, rank, shift int, seed uint64) api.Adapter {
	t.Helper()
	a, e := graft.Shape(rank, shift, c, weights(c.Layers*4*rank*c.Dim, seed))
	if e != api.OK {
		t.Fatalf("no adapter for %+v: error %d", c, e)
	}
	return a
}

// adapterOf is no adapter, or one of a rank and a shift that hang on the seed.
func adapterOf(t *testing.T, c api.Config, seed uint64) api.Adapter {
	t.Helper()
	if seed%3 == 0 {
		return none
	}
	return buildAdapter(t, c, int(seed/3%4)+1, int(seed/12%9), seed+777)
}

// configOf is a right configuration; those of many seeds are of all kinds.
func configOf(seed uint64) api.Config {
	shapes := [][2]int{{2, 1}, {4, 1}, {4, 2}, {6, 1}, {6, 3}, {8, 1}, {8, 2}, {8, 4}}
	experts := [][2]int{{0, 0}, {2, 1}, {2, 2}, {0, 0}, {3, 2}, {4, 1}, {4, 4}, {4, 3}}
	shape, chosen := shapes[seed%8], experts[seed/8%8]
	return api.Config{
		Dim: shape[0], Heads: shape[1], Layers: int(seed/3%2) + 1,
		Vocab: []int{2, 3, 7, 16}[seed/5%4], Hidden: []int{1, 2, 3, 5, 8}[seed/7%5],
		Experts: chosen[0], TopK: chosen[1], Window: []int{0, 1, 2, 3, 5, 16}[seed/11%6],
	}
}

// rowsOf is rows of numbers of a seed's kind: ordinary ones, small ones, those of all sizes.
func rowsOf(count, width int, seed uint64) [][]int64 {
	rows := make([][]int64, count)
	for i := range rows {
		rows[i] = mixed(width, seed+uint64(i)*1000)
		for j := range rows[i] {
			switch seed % 3 {
			case 0:
				rows[i][j] %= 4 * api.One
			case 1:
				rows[i][j] %= api.One / 2
			}
		}
	}
	return rows
}

// seenRows is how many rows are seen from a place, itself not counted.
func seenRows(c api.Config, place int) int {
	if c.Window > 0 {
		return min(place, c.Window-1)
	}
	return place
}

// wantCheck is what is wrong with a model, or with an adapter that is not none.
func wantCheck(m api.Model, a api.Adapter) api.Errno {
	if e := ckpt.Check(m); e != api.OK {
		return e
	}
	if a.Rank != 0 {
		return graft.Check(a, m.Config)
	}
	return api.OK
}

// wantStep follows 17.1, one step behind the other, by the layers ahead.
func wantStep(m api.Model, a api.Adapter, past [][]int64, place, token int) ([]int64, []int64, api.Errno) {
	if e := wantCheck(m, a); e != api.OK {
		return nil, nil, e
	}
	c := m.Config
	if place < 0 || place > 23 || token < 0 || token > c.Vocab-1 {
		return nil, nil, api.ErrRange
	}
	if len(past) != place-attn.Visible(place, c.Window) {
		return nil, nil, api.ErrShape
	}
	for _, row := range past {
		if len(row) != 2*c.Dim*c.Layers {
			return nil, nil, api.ErrShape
		}
	}
	var row, x []int64
	for _, w := range m.Embed[token*c.Dim : (token+1)*c.Dim] {
		x = append(x, 1024*int64(w))
	}
	for i := range c.Layers {
		var keys, values [][]int64
		for _, old := range past {
			part := old[i*2*c.Dim : (i+1)*2*c.Dim]
			keys, values = append(keys, part[:c.Dim]), append(values, part[c.Dim:])
		}
		var graft api.Graft
		if a.Rank != 0 {
			graft = a.Layers[i]
		}
		var k, v []int64
		k, v, x = wantLayer(c, m.Layers[i], graft, a, keys, values, place, x)
		row = append(row, k...)
		row = append(row, v...)
	}
	out, _ := norm.Rms(x, m.Norm)
	return row, out, api.OK
}

// wantLayer is one layer's keys, values, and what x becomes.
func wantLayer(c api.Config, l api.Layer, g api.Graft, a api.Adapter, keys, values [][]int64, place int, x []int64) ([]int64, []int64, []int64) {
	h, _ := norm.Rms(x, l.Norm1)
	q, _ := vec.Mat(l.Q, c.Dim, h)
	k, _ := vec.Mat(l.K, c.Dim, h)
	v, _ := vec.Mat(l.V, c.Dim, h)
	if a.Rank != 0 {
		more, _ := graft.Apply(g.QA, g.QB, a.Rank, a.Shift, h)
		q, _ = vec.Add(q, more)
		more, _ = graft.Apply(g.VA, g.VB, a.Rank, a.Shift, h)
		v, _ = vec.Add(v, more)
	}
	q, _ = turn.Heads(q, c.Heads, place)
	k, _ = turn.Heads(k, c.Heads, place)
	o, _ := attn.All(q, append(keys, k), append(values, v), c.Heads)
	o, _ = vec.Mat(l.O, c.Dim, o)
	x, _ = vec.Add(x, o)
	h, _ = norm.Rms(x, l.Norm2)
	n, _ := expert.Mix(l.Router, l.Up, l.Down, c.Hidden, c.TopK, h)
	x, _ = vec.Add(x, n)
	return k, v, x
}

// wantRun follows 17.2: Step at each place, behind the rows that are seen.
func wantRun(m api.Model, a api.Adapter, tokens []int) ([][]int64, [][]int64, api.Errno) {
	if e := wantCheck(m, a); e != api.OK {
		return nil, nil, e
	}
	var rows, outs [][]int64
	for place, token := range tokens {
		row, out, e := wantStep(m, a, rows[len(rows)-seenRows(m.Config, place):], place, token)
		if e != api.OK {
			return nil, nil, e
		}
		rows, outs = append(rows, row), append(outs, out)
	}
	return rows, outs, api.OK
}

func equalLists(a, b [][]int64) bool {
	return slices.EqualFunc(a, b, slices.Equal)
}

func checkStep(t *testing.T, m api.Model, a api.Adapter, past [][]int64, place, token int, row, out []int64) {
	t.Helper()
	if r, x, e := Step(m, a, past, place, token); !slices.Equal(r, row) || !slices.Equal(x, out) || e != api.OK {
		t.Errorf("Step of %+v, rank %d, %d rows, place %d, token %d: %v, %v, error %d, not %v, %v", m.Config, a.Rank, len(past), place, token, r, x, e, row, out)
	}
}

func refuseStep(t *testing.T, m api.Model, a api.Adapter, past [][]int64, place, token int, want api.Errno) {
	t.Helper()
	if r, x, e := Step(m, a, past, place, token); len(r) != 0 || len(x) != 0 || e != want {
		t.Errorf("Step of %+v, rank %d, %d rows, place %d, token %d: %v, %v, error %d, not %d", m.Config, a.Rank, len(past), place, token, r, x, e, want)
	}
}

// sameStep holds Step against the chapter's steps, errors too.
func sameStep(t *testing.T, m api.Model, a api.Adapter, past [][]int64, place, token int) {
	t.Helper()
	row, out, e := wantStep(m, a, past, place, token)
	if e != api.OK {
		refuseStep(t, m, a, past, place, token, e)
		return
	}
	checkStep(t, m, a, past, place, token, row, out)
}

func refuseScores(t *testing.T, m api.Model, x []int64, want api.Errno) {
	t.Helper()
	if s, e := Scores(m, x); len(s) != 0 || e != want {
		t.Errorf("Scores of %+v and %v: %v, error %d, not %d", m.Config, x, s, e, want)
	}
}

func checkRun(t *testing.T, m api.Model, a api.Adapter, tokens []int, rows, outs [][]int64) {
	t.Helper()
	if r, x, e := Run(m, a, tokens); !equalLists(r, rows) || !equalLists(x, outs) || e != api.OK {
		t.Errorf("Run of %+v, rank %d, %v: %v, %v, error %d, not %v, %v", m.Config, a.Rank, tokens, r, x, e, rows, outs)
	}
}

func refuseRun(t *testing.T, m api.Model, a api.Adapter, tokens []int, want api.Errno) {
	t.Helper()
	if r, x, e := Run(m, a, tokens); len(r) != 0 || len(x) != 0 || e != want {
		t.Errorf("Run of %+v, rank %d, %d tokens: %v, %v, error %d, not %d", m.Config, a.Rank, len(tokens), r, x, e, want)
	}
}

// sameRun holds Run against the chapter's steps at each place, errors too.
func sameRun(t *testing.T, m api.Model, a api.Adapter, tokens []int) {
	t.Helper()
	rows, outs, e := wantRun(m, a, tokens)
	if e != api.OK {
		refuseRun(t, m, a, tokens, e)
		return
	}
	checkRun(t, m, a, tokens, rows, outs)
}

// tokensOf is so many tokens of a vocabulary, the same ones each time for a seed.
func tokensOf(count, vocab int, seed uint64) []int {
	list := make([]int, count)
	for i, n := range mixed(count, seed) {
		list[i] = int(uint64(n) % uint64(vocab))
	}
	return list
}

// wrongConfigs is configurations that are not right, each for one reason alone.
func wrongConfigs() []api.Config {
	good := api.Config{Dim: 4, Heads: 2, Layers: 2, Vocab: 4, Hidden: 3, Experts: 2, TopK: 1, Window: 2}
	var list []api.Config
	add := func(change func(*api.Config, int), numbers ...int) {
		for _, n := range numbers {
			c := good
			change(&c, n)
			list = append(list, c)
		}
	}
	far := []int{math.MinInt, -1 << 32, 1 << 32, 1 << 61, 1 << 62, math.MaxInt}
	add(func(c *api.Config, n int) { c.Dim = n }, append(far, -4, -2, -1, 0, 1, 2, 3, 5, 6, 7, 9, 10, 12, 16)...)
	add(func(c *api.Config, n int) { c.Heads = n }, append(far, -2, -1, 0, 3, 4, 5)...)
	add(func(c *api.Config, n int) { c.Layers = n }, append(far, -1, 0, 3, 4)...)
	add(func(c *api.Config, n int) { c.Vocab = n }, append(far, -1, 0, 1, 17)...)
	add(func(c *api.Config, n int) { c.Hidden = n }, append(far, -1, 0, 9)...)
	add(func(c *api.Config, n int) { c.Experts = n }, append(far, -1, 0, 1, 5)...)
	add(func(c *api.Config, n int) { c.TopK = n }, append(far, -1, 0, 3, 4)...)
	add(func(c *api.Config, n int) { c.Window = n }, append(far, -1, 17)...)
	return append(list, api.Config{})
}

// 17.1: Width of right configurations is reckoned, of each Dim, with all numbers beside it.
func TestWidth(t *testing.T) {
	for _, c := range []struct{ dim, heads, layers, want int }{
		{2, 1, 1, 4}, {2, 1, 2, 8}, {4, 1, 1, 8}, {4, 2, 2, 16}, {6, 3, 1, 12}, {6, 1, 2, 24}, {8, 4, 1, 16}, {8, 2, 2, 32}, {8, 1, 2, 32},
	} {
		for _, beside := range []api.Config{{Vocab: 2, Hidden: 1}, {Vocab: 16, Hidden: 8, Experts: 4, TopK: 4, Window: 16}, {Vocab: 9, Hidden: 3, Experts: 2, TopK: 1, Window: 1}} {
			beside.Dim, beside.Heads, beside.Layers = c.dim, c.heads, c.layers
			if n := Width(beside); n != c.want {
				t.Errorf("Width(%+v): %d, not %d", beside, n, c.want)
			}
		}
	}
	for seed := range uint64(2000) {
		c := configOf(seed)
		if n := Width(c); !ckpt.Config(c) || n != 2*c.Dim*c.Layers {
			t.Errorf("Width(%+v): %d", c, n)
		}
	}
}

// 17.1: Width of a configuration that is not right is 0.
func TestWidthOfWrong(t *testing.T) {
	for _, c := range wrongConfigs() {
		if n := Width(c); ckpt.Config(c) || n != 0 {
			t.Errorf("Width(%+v): %d", c, n)
		}
	}
}

// tiny is a model of two numbers, one layer and a hidden one, whose weights are 0 but for the norms and the second token, which is one twice.
func tiny(t *testing.T, window int) api.Model {
	t.Helper()
	m, e := ckpt.Shape(api.Config{Dim: 2, Heads: 1, Layers: 1, Vocab: 2, Hidden: 1, Window: window}, make([]int8, 34))
	if e != api.OK {
		t.Fatalf("error %d", e)
	}
	m.Embed = []int8{0, 0, 64, 64}
	m.Norm, m.Layers[0].Norm1, m.Layers[0].Norm2 = []int8{64, 64}, []int8{64, 64}, []int8{64, 64}
	return m
}

// unit is a matrix that changes nothing.
func unit() []int8 { return []int8{64, 0, 0, 64} }

// rms is a row, brought to one size.
func rms(x ...int64) []int64 {
	list, _ := norm.Rms(x, []int8{64, 64})
	return list
}

// The chapter's example: a model whose weights are all 0, but the norms 64.
func TestExample(t *testing.T) {
	for seed := range uint64(40) {
		c := configOf(seed)
		m, _ := ckpt.Shape(c, make([]int8, ckpt.Size(c)))
		flat := slices.Repeat([]int8{64}, c.Dim)
		m.Norm = flat
		for i := range m.Layers {
			m.Layers[i].Norm1, m.Layers[i].Norm2 = flat, flat
		}
		for token := range c.Vocab {
			row, out := make([]int64, 2*c.Dim*c.Layers), make([]int64, c.Dim)
			checkStep(t, m, none, nil, 0, token, row, out)
			if s, e := Scores(m, out); !slices.Equal(s, make([]int64, c.Vocab)) || e != api.OK {
				t.Errorf("Scores of %+v: %v, error %d", c, s, e)
			}
			tokens := slices.Repeat([]int{token}, 24)
			checkRun(t, m, none, tokens, slices.Repeat([][]int64{row}, 24), slices.Repeat([][]int64{out}, 24))
		}
	}
}

// 17.1: the first place, reckoned by hand: one twice is 65535 twice behind a norm (chapter 5's example).
func TestStepFirst(t *testing.T) {
	m := tiny(t, 0)
	checkStep(t, m, none, nil, 0, 1, []int64{0, 0, 0, 0}, []int64{65535, 65535})
	checkStep(t, m, none, nil, 0, 0, []int64{0, 0, 0, 0}, []int64{0, 0})
	l := &m.Layers[0]
	// Keys, then values; without O nothing more comes of them.
	l.K, l.V = unit(), []int8{0, 32, -64, 0}
	checkStep(t, m, none, nil, 0, 1, []int64{65535, 65535, 32768, -65535}, []int64{65535, 65535})
	// Of one row its value is what comes of it: it is added to one twice.
	l.O = unit()
	checkStep(t, m, none, nil, 0, 1, []int64{65535, 65535, 32768, -65535}, rms(65536+32768, 1))
	l.O = []int8{0, 64, 0, 0}
	checkStep(t, m, none, nil, 0, 1, []int64{65535, 65535, 32768, -65535}, rms(1, 65536))
	// The network: Silu of one is 47909, of a bit less than one 47908.
	l.O, l.Up, l.Down = make([]int8, 4), [][]int8{{64, 0}}, [][]int8{{64, -64}}
	checkStep(t, m, none, nil, 0, 1, []int64{65535, 65535, 32768, -65535}, rms(65536+47908, 65536-47908))
	// Each norm has its own weights: those of the first are seen in the row alone, of the second in the network alone.
	l.Norm1 = []int8{32, 0}
	checkStep(t, m, none, nil, 0, 1, []int64{32768, 0, 0, -32768}, rms(65536+47908, 65536-47908))
	l.Norm2 = []int8{0, 64}
	checkStep(t, m, none, nil, 0, 1, []int64{32768, 0, 0, -32768}, []int64{65535, 65535})
	m.Norm = []int8{-64, 32}
	checkStep(t, m, none, nil, 0, 1, []int64{32768, 0, 0, -32768}, []int64{-65535, 32768})
}

// 17.1: a token's numbers are its own weights, each times 1024.
func TestStepEmbed(t *testing.T) {
	m := tiny(t, 0)
	m.Config.Vocab = 5
	m.Embed, m.Out = []int8{1, 2, -128, 127, 0, -1, 64, 0, 127, 126}, make([]int8, 10)
	for token := range 5 {
		x := []int64{1024 * int64(m.Embed[2*token]), 1024 * int64(m.Embed[2*token+1])}
		checkStep(t, m, none, nil, 0, token, []int64{0, 0, 0, 0}, rms(x...))
	}
	checkStep(t, m, none, nil, 0, 2, []int64{0, 0, 0, 0}, rms(0, -1024))
}

// 17.1: keys are turned by the place, head by head, values are not; a window of one sees no row.
func TestStepTurns(t *testing.T) {
	m := tiny(t, 1)
	m.Layers[0].K, m.Layers[0].V = unit(), unit()
	for place, want := range map[int][]int64{0: {65535, 65535}, 4: {-65535, 65535}, 8: {-65535, -65535}, 12: {65535, -65535}, 16: {65535, 65535}, 20: {-65535, 65535}} {
		checkStep(t, m, none, nil, place, 1, append(want, 65535, 65535), []int64{65535, 65535})
	}
	c := api.Config{Dim: 4, Heads: 2, Layers: 1, Vocab: 2, Hidden: 1, Window: 1}
	wide, _ := ckpt.Shape(c, make([]int8, ckpt.Size(c)))
	wide.Embed = slices.Repeat([]int8{64}, 8)
	wide.Layers[0].Norm1 = []int8{64, 64, 64, 64}
	wide.Layers[0].K = []int8{64, 0, 0, 0, 0, 64, 0, 0, 0, 0, 64, 0, 0, 0, 0, 64}
	checkStep(t, wide, none, nil, 4, 1, []int64{-65535, 65535, -65535, 65535, 0, 0, 0, 0}, make([]int64, 4))
	wide.Config.Heads = 1
	checkStep(t, wide, none, nil, 4, 1, []int64{-65535, 65535, -65535, -65535, 0, 0, 0, 0}, make([]int64, 4))
}

// 17.1: rows of the past, reckoned by hand: with keys of 0 each row has the same share.
func TestStepPast(t *testing.T) {
	m := tiny(t, 0)
	l := &m.Layers[0]
	l.O = unit()
	zero := []int64{0, 0, 0, 0}
	// Of two rows the own one is 0: half of the other's value is added.
	checkStep(t, m, none, [][]int64{{0, 0, 131072, -131072}}, 1, 1, zero, rms(131072, 0))
	// Keys are not values.
	checkStep(t, m, none, [][]int64{{131072, -131072, 0, 0}}, 1, 1, zero, rms(65536, 65536))
	checkStep(t, m, none, [][]int64{{0, 0, 131072, 0}, {0, 0, 65536, 0}, {0, 0, 0, 65536}}, 3, 1, zero, rms(65536+49152, 65536+16384))
	// What is beyond 32 bits is clamped, whatever is behind it.
	checkStep(t, m, none, [][]int64{{0, 0, most, least}}, 1, 1, zero, rms(65536+1<<30, 65536-1<<30))
	// A key that fits the turned query has all there is: at place 4 the query 65535, 65535 is turned to -65535, 65535.
	l.Q = unit()
	past := [][]int64{{0, 0, 1 << 20, 5}, {1 << 22, 0, 1 << 21, 5}, {0, 1 << 22, 65536, -65536}, {0, -1 << 22, 7, 5}}
	checkStep(t, m, none, past, 4, 1, zero, rms(131072, 0))
	past[2][1], past[3][0], past[3][1] = 0, -1<<22, 0
	past[3][2], past[3][3] = -65536, 65536
	checkStep(t, m, none, past, 4, 1, zero, rms(0, 131072))
}

// 17.1: an adapter's part is added to queries and values, ahead of turning; keys have none.
func TestStepAdapter(t *testing.T) {
	m := tiny(t, 0)
	m.Layers[0].K = unit()
	a := api.Adapter{Rank: 1, Shift: 1, Layers: []api.Graft{{QA: []int8{0, 0}, QB: []int8{0, 0}, VA: []int8{64, 0}, VB: []int8{64, -32}}}}
	// Half of 65535 is rounded away from 0 to 32768, a quarter of it to 16384.
	checkStep(t, m, a, nil, 0, 1, []int64{65535, 65535, 32768, -16384}, []int64{65535, 65535})
	m.Layers[0].V = unit()
	checkStep(t, m, a, nil, 0, 1, []int64{65535, 65535, 65535 + 32768, 65535 - 16384}, []int64{65535, 65535})
	a.Shift = 0
	checkStep(t, m, a, nil, 0, 1, []int64{65535, 65535, 2 * 65535, 65535 - 32768}, []int64{65535, 65535})
	// Queries: without them all keys are the same to it; with 65535, 65535 of the adapter, turned at place 4, the second row fits.
	m.Layers[0].K, m.Layers[0].V, m.Layers[0].O = make([]int8, 4), make([]int8, 4), unit()
	past := [][]int64{{0, 0, 1 << 20, 5}, {0, 1 << 22, 65536, -65536}, {0, 0, 1 << 20, 5}, {0, 0, 7, 5}}
	q := api.Adapter{Rank: 1, Layers: []api.Graft{{QA: []int8{64, 0}, QB: []int8{64, 64}, VA: []int8{0, 0}, VB: []int8{0, 0}}}}
	checkStep(t, m, q, past, 4, 1, []int64{0, 0, 0, 0}, rms(131072, 0))
	// Each of the five rows has a fifth, cut off: 13107.
	checkStep(t, m, none, past, 4, 1, []int64{0, 0, 0, 0}, rms(65536+((2<<20+65536+7)*13107+32768)>>16, 65536-((65536-15)*13107+32768)>>16))
}
