package model

import (
	"slices"
	"testing"

	"aviary/api"
	"aviary/ckpt"
	"aviary/graft"
)

// roomy is a list with marked room behind its end.
func roomy[M any](list []M, mark M) []M {
	return append(slices.Clone(list), mark, mark, mark)[:len(list)]
}

// marked is whether that room is still as it was.
func marked[M comparable](list []M, mark M) bool {
	return slices.Equal(list[len(list):len(list)+3], []M{mark, mark, mark})
}

// modelLists is all lists of a model.
func modelLists(m *api.Model) []*[]int8 {
	lists := []*[]int8{&m.Embed, &m.Norm, &m.Out}
	for i := range m.Layers {
		l := &m.Layers[i]
		lists = append(lists, &l.Norm1, &l.Q, &l.K, &l.V, &l.O, &l.Norm2, &l.Router)
		for j := range l.Up {
			lists = append(lists, &l.Up[j], &l.Down[j])
		}
	}
	return lists
}

// adapterLists is all lists of an adapter.
func adapterLists(a *api.Adapter) []*[]int8 {
	var lists []*[]int8
	for i := range a.Layers {
		g := &a.Layers[i]
		lists = append(lists, &g.QA, &g.QB, &g.VA, &g.VB)
	}
	return lists
}

// handed is all that is handed in, with marked room behind each list's end.
type handed struct {
	m      api.Model
	a      api.Adapter
	past   [][]int64
	tokens []int
	x      []int64
	place  int
	seed   uint64
}

func hand(t *testing.T, seed uint64) handed {
	t.Helper()
	c := configOf(seed)
	m, a, place := build(t, c, seed), buildAdapter(t, c, int(seed%4)+1, 3, seed), int(seed%24)
	for _, list := range slices.Concat(modelLists(&m), adapterLists(&a)) {
		*list = roomy(*list, 77)
	}
	for i := range m.Layers {
		m.Layers[i].Up, m.Layers[i].Down = roomy(m.Layers[i].Up, []int8{77}), roomy(m.Layers[i].Down, []int8{77})
	}
	m.Layers, a.Layers = roomy(m.Layers, api.Layer{Q: []int8{77}}), roomy(a.Layers, api.Graft{QA: []int8{77}})
	past := rowsOf(seenRows(c, place), Width(c), seed)
	for i := range past {
		past[i] = roomy(past[i], 77)
	}
	return handed{m, a, roomy(past, []int64{77}), roomy(tokensOf(24, c.Vocab, seed), 77), roomy(mixed(c.Dim, seed), 77), place, seed}
}

// untouched is whether all of it is as it was, with the room behind it.
func (h handed) untouched(t *testing.T) bool {
	t.Helper()
	c := configOf(h.seed)
	m, a := build(t, c, h.seed), buildAdapter(t, c, int(h.seed%4)+1, 3, h.seed)
	if h.m.Config != c || !slices.Equal(ckpt.Flat(h.m), ckpt.Flat(m)) || h.a.Rank != a.Rank || h.a.Shift != 3 || !slices.Equal(graft.Flat(h.a, c), graft.Flat(a, c)) {
		return false
	}
	for _, list := range slices.Concat(modelLists(&h.m), adapterLists(&h.a)) {
		if !marked(*list, 77) {
			return false
		}
	}
	for i := range 3 {
		if !slices.Equal(h.m.Layers[c.Layers:][:3][i].Q, []int8{77}) || !slices.Equal(h.a.Layers[c.Layers:][:3][i].QA, []int8{77}) {
			return false
		}
		for _, l := range h.m.Layers {
			if !slices.Equal(l.Up[len(l.Up):][:3][i], []int8{77}) || !slices.Equal(l.Down[len(l.Down):][:3][i], []int8{77}) {
				return false
			}
		}
	}
	return h.rowsUntouched()
}

// rowsUntouched is whether the rows, the tokens and the numbers are as they were, with the room behind them.
func (h handed) rowsUntouched() bool {
	c := h.m.Config
	if !equalLists(h.past, rowsOf(seenRows(c, h.place), Width(c), h.seed)) {
		return false
	}
	for _, row := range h.past {
		if !marked(row, 77) {
			return false
		}
	}
	for _, row := range h.past[len(h.past):][:3] {
		if !slices.Equal(row, []int64{77}) {
			return false
		}
	}
	return slices.Equal(h.tokens, tokensOf(24, c.Vocab, h.seed)) && marked(h.tokens, 77) && slices.Equal(h.x, mixed(c.Dim, h.seed)) && marked(h.x, 77)
}

// answers is all lists that the calls answer; some calls have an error.
func (h handed) answers() (lists, rows, outs [][]int64) {
	row, out, _ := Step(h.m, h.a, h.past, h.place, h.tokens[0])
	bare, other, _ := Step(h.m, none, h.past, h.place, h.tokens[0])
	scores, _ := Scores(h.m, h.x)
	rows, outs, _ = Run(h.m, h.a, h.tokens)
	more, again, _ := Run(h.m, none, h.tokens[:20])
	Step(h.m, h.a, h.past, h.place, -1)
	Step(h.m, h.a, append([][]int64{nil}, h.past...), h.place, 0)
	Scores(h.m, h.x[1:])
	Run(h.m, h.a, h.tokens[:25])
	return slices.Concat([][]int64{row, out, bare, other, scores}, rows, outs, more, again), rows, outs
}

// spoil writes over a list, with the room behind its end.
func spoil(list []int64) {
	for i := range cap(list) {
		list[:cap(list)][i] = -99
	}
}

// R4: what is handed in is as it was afterwards, with the room behind it; answers share nothing with it, nor with one another.
func TestNothingChanged(t *testing.T) {
	for seed := range uint64(120) {
		h := hand(t, seed)
		lists, rows, outs := h.answers()
		if !h.untouched(t) {
			t.Fatalf("%+v: what was handed in was changed", h.m.Config)
		}
		kept := make([][]int64, len(lists))
		for i, list := range lists {
			kept[i] = slices.Clone(list)
		}
		for i, list := range lists {
			if !slices.Equal(list, kept[i]) || len(list) == 0 {
				t.Errorf("%+v: answer %d shares memory with one ahead of it, or is empty", h.m.Config, i)
			}
			spoil(list)
		}
		// The lists of rows do not share their room either.
		clear(rows[:cap(rows)])
		if slices.ContainsFunc(outs, func(out []int64) bool { return out == nil }) {
			t.Errorf("%+v: the list of rows shares memory with the other one", h.m.Config)
		}
		clear(outs[:cap(outs)])
		if !h.untouched(t) {
			t.Errorf("%+v: answers share memory with what was handed in", h.m.Config)
		}
		if again, _, _ := h.answers(); !equalLists(again, kept) {
			t.Errorf("%+v: answers differ from those ahead", h.m.Config)
		}
	}
}

// R4: what was answered stays as it is, when what was handed in is written over.
func TestNothingKept(t *testing.T) {
	for seed := range uint64(120) {
		h := hand(t, seed)
		lists, _, _ := h.answers()
		kept := make([][]int64, len(lists))
		for i, list := range lists {
			kept[i] = slices.Clone(list)
		}
		for _, list := range slices.Concat(modelLists(&h.m), adapterLists(&h.a)) {
			clear(*list)
		}
		for _, row := range h.past {
			spoil(row)
		}
		spoil(h.x)
		clear(h.tokens)
		clear(h.past)
		clear(h.m.Layers)
		clear(h.a.Layers)
		if !equalLists(lists, kept) {
			t.Errorf("%+v: answers share memory with what was handed in", h.m.Config)
		}
	}
}

// R4: what lies behind a list's end is not read: a list is of its length, whatever room it has.
func TestRoomIsNotRead(t *testing.T) {
	for seed := range uint64(60) {
		h := hand(t, seed)
		c := h.m.Config
		sameStep(t, h.m, h.a, h.past, h.place, 0)
		if n := len(h.past); n > 0 {
			refuseStep(t, h.m, h.a, h.past[:n-1], h.place, 0, api.ErrShape)
			row := h.past[n-1]
			h.past[n-1] = row[:len(row)-1]
			refuseStep(t, h.m, h.a, h.past, h.place, 0, api.ErrShape)
			h.past[n-1] = row
		}
		refuseScores(t, h.m, h.x[:c.Dim-1], api.ErrShape)
		checkRun(t, h.m, h.a, h.tokens[:0], nil, nil)
		short := h.a
		short.Layers = short.Layers[:c.Layers-1]
		refuseStep(t, h.m, short, h.past, h.place, 0, api.ErrShape)
		h.m.Out = h.m.Out[:len(h.m.Out)-1]
		refuseStep(t, h.m, h.a, h.past, h.place, 0, api.ErrShape)
		refuseScores(t, h.m, h.x, api.ErrShape)
	}
}
