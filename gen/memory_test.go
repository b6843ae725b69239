package gen

import (
	"slices"
	"testing"

	"aviary/api"
	"aviary/ckpt"
	"aviary/graft"
)

// roomy is a list with marked room behind its end.
func roomy[M any](list []M, mark M) []M {
	return append(slices.Clone(list), mark, mark, mark)[:len(list)]
}

// marked is whether that room is still as it was.
func marked[M any](list []M, is func(member M) bool) bool {
	for _, member := range list[len(list):][:3] {
		if !is(member) {
			return false
		}
	}
	return true
}

// handed is all that is handed in, with marked room behind each list's end.
type handed struct {
	m    api.Model
	d    api.Adapter
	a    api.Ask
	seed uint64
}

// fresh is a model, an adapter and an ask of a seed.
func fresh(t *testing.T, seed uint64) handed {
	t.Helper()
	c := configOf(seed)
	a := askOf(api.Greedy, c.Vocab, seed)
	a.Length, a.Stop = min(a.Length, 5), -1
	return handed{build(t, c, seed), buildAdapter(t, c, int(seed%4)+1, 3, seed), a, seed}
}

func hand(t *testing.T, seed uint64) handed {
	t.Helper()
	h := fresh(t, seed)
	for _, list := range slices.Concat(modelLists(&h.m), adapterLists(&h.d)) {
		*list = roomy(*list, 77)
	}
	for i := range h.m.Layers {
		l := &h.m.Layers[i]
		l.Up, l.Down = roomy(l.Up, []int8{77}), roomy(l.Down, []int8{77})
	}
	h.m.Layers, h.d.Layers = roomy(h.m.Layers, api.Layer{Q: []int8{77}}), roomy(h.d.Layers, api.Graft{QA: []int8{77}})
	h.a.Prompt = roomy(h.a.Prompt, 77)
	return h
}

// untouched is whether all of it is as it was, with the room behind it.
func (h handed) untouched(t *testing.T) bool {
	t.Helper()
	was := fresh(t, h.seed)
	c := was.m.Config
	if h.m.Config != c || !slices.Equal(ckpt.Flat(h.m), ckpt.Flat(was.m)) || h.d.Rank != was.d.Rank || h.d.Shift != was.d.Shift || !slices.Equal(graft.Flat(h.d, c), graft.Flat(was.d, c)) || !slices.Equal(h.a.Prompt, was.a.Prompt) {
		return false
	}
	row := func(list []int8) bool { return slices.Equal(list, []int8{77}) }
	kept := marked(h.a.Prompt, func(token int) bool { return token == 77 })
	kept = kept && marked(h.m.Layers, func(l api.Layer) bool { return row(l.Q) })
	kept = kept && marked(h.d.Layers, func(g api.Graft) bool { return row(g.QA) })
	for _, l := range h.m.Layers {
		kept = kept && marked(l.Up, row) && marked(l.Down, row)
	}
	for _, list := range slices.Concat(modelLists(&h.m), adapterLists(&h.d)) {
		kept = kept && marked(*list, func(w int8) bool { return w == 77 })
	}
	return kept
}

// answers is all lists that all kinds answer, with an adapter and without; some calls have an error.
func (h handed) answers() [][]int {
	var lists [][]int
	for _, kind := range kinds() {
		a := asking(h.a, func(a *api.Ask) { a.Kind, a.Heat, a.Beams = kind, 2, 1+int(h.seed%4) })
		for _, d := range []api.Adapter{h.d, none} {
			tokens, vector, _ := Answer(h.m, d, a)
			lists = append(lists, tokens, vector)
		}
		Check(h.m.Config, a)
		Rows(a)
		Cost(a)
		a.Length += api.MaxLen
		Answer(h.m, h.d, a)
		// The first mark is a token of no vocabulary.
		a.Prompt = a.Prompt[:len(a.Prompt)+1]
		Answer(h.m, h.d, a)
	}
	return lists
}

// spoil writes over a list, with the room behind its end.
func spoil(list []int) {
	for i := range list[:cap(list)] {
		list[:cap(list)][i] = -99
	}
}

// copies is lists in memory of their own.
func copies(lists [][]int) [][]int {
	var list [][]int
	for _, one := range lists {
		list = append(list, slices.Clone(one))
	}
	return list
}

// R4: what is handed in is as it was afterwards, with the room behind it; answers share nothing with it, nor with one another.
func TestNothingChanged(t *testing.T) {
	for seed := range uint64(60) {
		h := hand(t, seed)
		lists := h.answers()
		if !h.untouched(t) {
			t.Fatalf("%+v: what was handed in was changed", h.m.Config)
		}
		kept := copies(lists)
		for i, list := range lists {
			if !slices.Equal(list, kept[i]) {
				t.Errorf("%+v: the list %d shares memory with one ahead of it", h.m.Config, i)
			}
			spoil(list)
		}
		if !h.untouched(t) {
			t.Errorf("%+v: answers share memory with what was handed in", h.m.Config)
		}
		if again := h.answers(); !slices.EqualFunc(again, kept, slices.Equal) {
			t.Errorf("%+v: answers differ from those ahead", h.m.Config)
		}
	}
}

// R4: what was answered stays as it is, when what was handed in is written over.
func TestNothingKept(t *testing.T) {
	for seed := range uint64(60) {
		h := hand(t, seed)
		lists := h.answers()
		kept := copies(lists)
		for _, list := range slices.Concat(modelLists(&h.m), adapterLists(&h.d)) {
			clear(*list)
		}
		clear(h.m.Layers)
		clear(h.d.Layers)
		spoil(h.a.Prompt)
		if !slices.EqualFunc(lists, kept, slices.Equal) {
			t.Errorf("%+v: answers share memory with what was handed in", h.m.Config)
		}
	}
}

// R4: what lies behind a list's end is not read: a list is of its length, whatever room it has.
func TestRoomIsNotRead(t *testing.T) {
	for seed := range uint64(60) {
		h, was := hand(t, seed), fresh(t, seed)
		for _, kind := range kinds() {
			a := asking(h.a, func(a *api.Ask) { a.Kind, a.Heat = kind, 2 })
			tokens, vector := wantAnswer(t, was.m, was.d, asking(was.a, func(a *api.Ask) { a.Kind, a.Heat = kind, 2 }))
			checkAnswer(t, h.m, h.d, a, tokens, vector)
			a.Prompt = a.Prompt[:0]
			refuse(t, h.m, h.d, a, api.Malformed)
		}
		short := h.d
		short.Layers = short.Layers[:len(short.Layers)-1]
		refuse(t, h.m, short, h.a, api.ErrShape)
		h.m.Out = h.m.Out[:len(h.m.Out)-1]
		refuse(t, h.m, h.d, h.a, api.ErrShape)
	}
}
