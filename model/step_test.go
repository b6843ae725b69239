package model

import (
	"math"
	"slices"
	"testing"

	"aviary/api"
	"aviary/attn"
	"aviary/ckpt"
	"aviary/graft"
)

// places is the first place, the last one, and some between.
func places() []int { return []int{0, 1, 2, 4, 15, 16, 23} }

// 17.1: models, adapters and rows of all kinds, held against the chapter's steps.
func TestStepMixed(t *testing.T) {
	for seed := range uint64(3000) {
		c := configOf(seed)
		m, a := build(t, c, seed), adapterOf(t, c, seed)
		for i, place := range places() {
			past := rowsOf(seenRows(c, place), Width(c), seed+uint64(i))
			token := tokensOf(1, c.Vocab, seed+uint64(i))[0]
			row, out, e := wantStep(m, a, past, place, token)
			if e != api.OK || len(row) != Width(c) || len(out) != c.Dim {
				t.Fatalf("%d numbers, %d more, error %d", len(row), len(out), e)
			}
			checkStep(t, m, a, past, place, token, row, out)
		}
	}
}

// 17.1: what the mixed ones are held against hangs on all that it must hang on: else they would tell nothing.
func TestStepMixedTells(t *testing.T) {
	adapter, place, past, second := 0, 0, 0, 0
	for seed := range uint64(300) {
		c := configOf(seed)
		c.Window, c.Layers = 0, 2
		m, a := build(t, c, seed), buildAdapter(t, c, 2, 3, seed)
		rows := rowsOf(5, Width(c), seed)
		row, out, _ := wantStep(m, a, rows, 5, 1)
		if r, x, _ := wantStep(m, none, rows, 5, 1); !slices.Equal(r, row) && !slices.Equal(x, out) {
			adapter++
		}
		if r, x, _ := wantStep(m, a, append(rows, rows...), 10, 1); !slices.Equal(r, row) && !slices.Equal(x, out) {
			place++
		}
		if r, x, _ := wantStep(m, a, rowsOf(5, Width(c), seed+3000), 5, 1); !slices.Equal(r, row) && !slices.Equal(x, out) {
			past++
		}
		m.Layers[1], a.Layers[1] = m.Layers[0], a.Layers[0]
		if r, x, _ := wantStep(m, a, rows, 5, 1); !slices.Equal(r, row) && !slices.Equal(x, out) {
			second++
		}
	}
	if min(adapter, place, past, second) < 200 {
		t.Errorf("of 300 hang on the adapter %d, on the place %d, on the past %d, on the second layer %d", adapter, place, past, second)
	}
}

// flatModel is a model with one weight everywhere.
func flatModel(c api.Config, w int8) api.Model {
	m, _ := ckpt.Shape(c, slices.Repeat([]int8{w}, ckpt.Size(c)))
	return m
}

// flatAdapter is an adapter with one weight everywhere.
func flatAdapter(c api.Config, rank, shift int, w int8) api.Adapter {
	a, _ := graft.Shape(rank, shift, c, slices.Repeat([]int8{w}, c.Layers*4*rank*c.Dim))
	return a
}

// 17.1: the smallest and the greatest weights everywhere, with rows of the smallest and the greatest numbers.
func TestStepEdges(t *testing.T) {
	numbers := []int64{least, least + 1, low - 1, low, low + 1, -65536, -1, 0, 1, 65536, high - 1, high, high + 1, 1<<32 + 1, most - 1, most}
	for seed := range uint64(60) {
		c := configOf(seed)
		for _, w := range []int8{-128, -127, -64, -1, 0, 1, 64, 127} {
			m := flatModel(c, w)
			for i, n := range numbers {
				place := places()[i%7]
				past := make([][]int64, seenRows(c, place))
				for j := range past {
					past[j] = slices.Repeat([]int64{n}, Width(c))
					past[j][j%Width(c)] = numbers[(i+j)%len(numbers)]
				}
				sameStep(t, m, none, past, place, 0)
				sameStep(t, m, flatAdapter(c, i%4+1, i%9, -w), past, place, c.Vocab-1)
				sameStep(t, build(t, c, seed), flatAdapter(c, i%4+1, i%9, w), past, place, 1)
			}
		}
	}
}

// 17.1: the row is each layer's keys, then its values, layer by layer: each layer's own matrices are seen in its own part.
func TestStepRowOrder(t *testing.T) {
	for seed := range uint64(200) {
		c := configOf(seed)
		c.Layers = 2
		m := build(t, c, seed)
		// What is looked at does not come into x, so that a part changes nothing but itself.
		clear(m.Layers[0].O)
		row, _, _ := Step(m, none, nil, 0, 1)
		for part := range 4 {
			other := build(t, c, seed)
			clear(other.Layers[0].O)
			l := &other.Layers[part/2]
			clear([][]int8{l.K, l.V}[part%2])
			want := slices.Clone(row)
			clear(want[part*c.Dim : (part+1)*c.Dim])
			if r, _, e := Step(other, none, nil, 0, 1); !slices.Equal(r, want) || e != api.OK {
				t.Errorf("%+v without part %d: %v, error %d, not %v", c, part, r, e, want)
			}
		}
	}
}

// 17.1: an adapter whose Rank is 0 is none, whatever else it holds.
func TestStepNoAdapter(t *testing.T) {
	for seed := range uint64(100) {
		c := configOf(seed)
		m, past := build(t, c, seed), rowsOf(seenRows(c, 3), Width(c), seed)
		row, out, e := wantStep(m, none, past, 3, 1)
		if e != api.OK {
			t.Fatalf("error %d", e)
		}
		full := buildAdapter(t, c, 2, 1, seed)
		for _, shift := range []int{0, 1, 8, 9, -1, math.MinInt, math.MaxInt} {
			for _, layers := range [][]api.Graft{nil, {}, full.Layers, full.Layers[:1], make([]api.Graft, 3), {{QA: []int8{1}}}} {
				a := api.Adapter{Shift: shift, Layers: layers}
				checkStep(t, m, a, past, 3, 1, row, out)
				sameRun(t, m, a, []int{1, 0, 1})
			}
		}
	}
}

// eachWrongModel hands over models that are not right, each for one reason alone, with the error that Check has of it.
func eachWrongModel(t *testing.T, do func(m api.Model, want api.Errno)) {
	t.Helper()
	good := api.Config{Dim: 4, Heads: 2, Layers: 2, Vocab: 4, Hidden: 3, Experts: 2, TopK: 1, Window: 2}
	for _, c := range wrongConfigs() {
		m := build(t, good, 1)
		m.Config = c
		do(m, api.ErrRange)
	}
	lists := func(m *api.Model) []*[]int8 {
		l := &m.Layers[1]
		return []*[]int8{&m.Embed, &m.Norm, &m.Out, &l.Norm1, &l.Q, &l.K, &l.V, &l.O, &l.Norm2, &l.Router, &l.Up[0], &l.Up[1], &l.Down[0], &l.Down[1], &m.Layers[0].K, &m.Layers[0].Up[0]}
	}
	sample := build(t, good, 1)
	for i := range lists(&sample) {
		for _, count := range []int{0, 1, -1, 5000} {
			m := build(t, good, 1)
			list := lists(&m)[i]
			if count > 1 {
				*list = make([]int8, count)
			} else if count != 0 {
				*list = make([]int8, len(*list)+count)
			} else {
				*list = nil
			}
			do(m, api.ErrShape)
		}
	}
	for _, change := range []func(m *api.Model){
		func(m *api.Model) { m.Layers = nil },
		func(m *api.Model) { m.Layers = m.Layers[:1] },
		func(m *api.Model) { m.Layers = append(m.Layers, m.Layers[0]) },
		func(m *api.Model) { m.Config.Layers = 1 },
		func(m *api.Model) { m.Layers[0].Up = nil },
		func(m *api.Model) { m.Layers[1].Up = m.Layers[1].Up[:1] },
		func(m *api.Model) { m.Layers[1].Down = m.Layers[1].Down[:1] },
		func(m *api.Model) { m.Layers[1].Down = append(m.Layers[1].Down, m.Layers[1].Down[0]) },
		func(m *api.Model) { m.Config.Experts, m.Config.TopK = 0, 0 },
		func(m *api.Model) { m.Config.Experts = 3 },
		func(m *api.Model) { m.Config.Vocab = 5 },
		func(m *api.Model) { m.Config.Hidden = 4 },
		func(m *api.Model) { m.Config.Dim, m.Config.Heads = 2, 1 },
	} {
		m := build(t, good, 1)
		change(&m)
		do(m, api.ErrShape)
	}
}

// eachWrongAdapter hands over adapters that are not none and not right for a configuration, with the error that Check has of them.
func eachWrongAdapter(t *testing.T, c api.Config, do func(a api.Adapter, want api.Errno)) {
	t.Helper()
	for _, rank := range []int{math.MinInt, -4, -2, -1, 5, 6, 8, 1 << 32, 1 << 62, math.MaxInt} {
		a := buildAdapter(t, c, 2, 3, 4)
		a.Rank = rank
		do(a, api.ErrRange)
		do(api.Adapter{Rank: rank}, api.ErrRange)
	}
	for _, shift := range []int{math.MinInt, -1, 9, 10, 62, 1 << 32, math.MaxInt} {
		a := buildAdapter(t, c, 2, 3, 4)
		a.Shift = shift
		do(a, api.ErrRange)
		do(api.Adapter{Rank: 1, Shift: shift}, api.ErrRange)
	}
	for _, rank := range []int{1, 3, 4} {
		a := buildAdapter(t, c, 2, 3, 4)
		a.Rank = rank
		do(a, api.ErrShape)
		do(api.Adapter{Rank: rank}, api.ErrShape)
	}
	for layer := range c.Layers {
		for i := range 4 {
			for _, count := range []int{0, 1, 2*c.Dim - 1, 2*c.Dim + 1, 4 * c.Dim} {
				a := buildAdapter(t, c, 2, 3, 4)
				g := &a.Layers[layer]
				*[]*[]int8{&g.QA, &g.QB, &g.VA, &g.VB}[i] = make([]int8, count)
				do(a, api.ErrShape)
			}
		}
	}
	a := buildAdapter(t, c, 2, 3, 4)
	do(api.Adapter{Rank: 2, Shift: 3, Layers: a.Layers[1:]}, api.ErrShape)
	do(api.Adapter{Rank: 2, Shift: 3, Layers: append(a.Layers, a.Layers[0])}, api.ErrShape)
}

// grown is rows of which one is longer or shorter by some numbers.
func grown(rows [][]int64, place, by int) [][]int64 {
	list := slices.Clone(rows)
	list[place] = make([]int64, len(rows[place])+by)
	return list
}

// 17.1: ckpt.Check's errors come first, whatever else is wrong.
func TestStepRefusesModel(t *testing.T) {
	eachWrongModel(t, func(m api.Model, want api.Errno) {
		if e := ckpt.Check(m); e != want {
			t.Fatalf("%+v: error %d, not %d", m.Config, e, want)
		}
		for _, a := range []api.Adapter{none, {Rank: 5}, {Rank: 1}, {Rank: -1, Shift: 9}, {Rank: 1, Shift: 1, Layers: make([]api.Graft, 2)}} {
			for _, past := range [][][]int64{nil, {{}}, rowsOf(1, 16, 1), rowsOf(2, 16, 1)} {
				for _, place := range []int{0, 1, -1, 24, math.MinInt, math.MaxInt} {
					for _, token := range []int{0, 3, -1, 4, math.MinInt, math.MaxInt} {
						refuseStep(t, m, a, past, place, token, want)
					}
				}
			}
		}
	})
}

// 17.1: graft.Check's errors come ahead of those of the place, the token and the past.
func TestStepRefusesAdapter(t *testing.T) {
	for seed := range uint64(24) {
		c := configOf(seed)
		m := build(t, c, seed)
		eachWrongAdapter(t, c, func(a api.Adapter, want api.Errno) {
			if e := graft.Check(a, c); e != want {
				t.Fatalf("rank %d for %+v: error %d, not %d", a.Rank, c, e, want)
			}
			for _, past := range [][][]int64{nil, {{}}, rowsOf(seenRows(c, 2), Width(c), 1)} {
				for _, place := range []int{0, 2, -1, 24} {
					for _, token := range []int{0, -1, c.Vocab} {
						refuseStep(t, m, a, past, place, token, want)
					}
				}
			}
		})
	}
}

// 17.1: places from 0 to 23, tokens from 0 to Vocab - 1; what is not comes ahead of what is wrong with the past.
func TestStepRange(t *testing.T) {
	for seed := range uint64(100) {
		c := configOf(seed)
		m, a := build(t, c, seed), adapterOf(t, c, seed)
		past := rowsOf(24, Width(c), seed)
		for _, place := range []int{0, 1, 22, 23} {
			seen := past[:seenRows(c, place)]
			for _, token := range []int{0, c.Vocab - 1} {
				if _, _, e := Step(m, a, seen, place, token); e != api.OK {
					t.Errorf("%+v, place %d, token %d: error %d", c, place, token, e)
				}
				sameStep(t, m, a, seen, place, token)
			}
			for _, token := range []int{-1, -2, c.Vocab, c.Vocab + 1, math.MinInt, math.MaxInt, 1 << 32} {
				refuseStep(t, m, a, seen, place, token, api.ErrRange)
				refuseStep(t, m, a, slices.Concat(seen, past[:1]), place, token, api.ErrRange)
				refuseStep(t, m, a, [][]int64{{}}, place, token, api.ErrRange)
			}
		}
		for _, place := range []int{-1, -2, 24, 25, 1000, math.MinInt, math.MaxInt, 1 << 32} {
			for count := range 25 {
				refuseStep(t, m, a, past[:count], place, 0, api.ErrRange)
			}
			refuseStep(t, m, a, [][]int64{{}}, place, c.Vocab-1, api.ErrRange)
			refuseStep(t, m, a, nil, place, c.Vocab, api.ErrRange)
			refuseStep(t, m, a, nil, place, -1, api.ErrRange)
		}
	}
}

// 17.1: the past has just the rows that are seen from the place, with a window and without.
func TestStepCountsRows(t *testing.T) {
	for seed := range uint64(8) {
		for window := range 17 {
			c := configOf(seed)
			c.Window = window
			m, a := build(t, c, seed), adapterOf(t, c, seed)
			past := rowsOf(40, Width(c), seed)
			for place := range 24 {
				seen := place - attn.Visible(place, window)
				for count := range past {
					if count != seen {
						refuseStep(t, m, a, past[:count], place, 1, api.ErrShape)
					}
				}
				sameStep(t, m, a, past[:seen], place, 1)
				if _, _, e := Step(m, a, past[:seen], place, 1); e != api.OK {
					t.Errorf("%+v, place %d: error %d", c, place, e)
				}
			}
		}
	}
}

// 17.1: without a window the rows of all places are seen, with one of n those of n - 1; at place 0 none. Reckoned by hand.
func TestStepCountsByHand(t *testing.T) {
	for _, c := range []struct{ window, place, rows int }{
		{0, 0, 0}, {0, 1, 1}, {0, 23, 23}, {1, 0, 0}, {1, 1, 0}, {1, 23, 0}, {2, 0, 0}, {2, 1, 1}, {2, 2, 1}, {2, 23, 1},
		{3, 1, 1}, {3, 2, 2}, {3, 3, 2}, {16, 14, 14}, {16, 15, 15}, {16, 16, 15}, {16, 23, 15},
	} {
		m := tiny(t, c.window)
		checkStep(t, m, none, make24()[:c.rows], c.place, 1, []int64{0, 0, 0, 0}, []int64{65535, 65535})
		refuseStep(t, m, none, make24()[:c.rows+1], c.place, 1, api.ErrShape)
		if c.rows > 0 {
			refuseStep(t, m, none, make24()[:c.rows-1], c.place, 1, api.ErrShape)
		}
	}
}

// make24 is rows of four noughts.
func make24() [][]int64 { return slices.Repeat([][]int64{{0, 0, 0, 0}}, 24) }

// 17.1: each row of the past has Width numbers: the first, one in the middle, the last.
func TestStepMeasuresRows(t *testing.T) {
	for seed := range uint64(60) {
		c := configOf(seed)
		m, a := build(t, c, seed), adapterOf(t, c, seed)
		for _, place := range []int{1, 2, 5, 23} {
			past := rowsOf(seenRows(c, place), Width(c), seed)
			sameStep(t, m, a, past, place, 0)
			for i := range past {
				for _, by := range []int{-Width(c), -c.Dim, -1, 1, c.Dim, Width(c), 1000} {
					refuseStep(t, m, a, grown(past, i, by), place, 0, api.ErrShape)
				}
				wrong := slices.Clone(past)
				wrong[i] = nil
				refuseStep(t, m, a, wrong, place, 0, api.ErrShape)
				if i > 0 {
					// One is too long by as much as another is too short.
					refuseStep(t, m, a, grown(grown(past, i, 1), 0, -1), place, 0, api.ErrShape)
				}
			}
		}
	}
}
