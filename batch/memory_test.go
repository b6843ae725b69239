package batch

import (
	"reflect"
	"slices"
	"testing"

	"aviary/api"
	"aviary/gen"
	"aviary/graft"
)

// roomy is a list with marked room behind its end.
func roomy[M any](list []M, mark M) []M {
	return append(slices.Clone(list), mark, mark, mark)[:len(list)]
}

// modelLists is all lists of weights of a model.
func modelLists(m *api.Model) []*[]int8 {
	lists := []*[]int8{&m.Embed, &m.Norm, &m.Out}
	for i := range m.Layers {
		l := &m.Layers[i]
		lists = append(lists, &l.Norm1, &l.Q, &l.K, &l.V, &l.O, &l.Norm2, &l.Router)
		for k := range l.Up {
			lists = append(lists, &l.Up[k], &l.Down[k])
		}
	}
	return lists
}

// adapterLists is all lists of weights of an adapter.
func adapterLists(d *api.Adapter) []*[]int8 {
	var lists []*[]int8
	for i := range d.Layers {
		l := &d.Layers[i]
		lists = append(lists, &l.QA, &l.QB, &l.VA, &l.VB)
	}
	return lists
}

// hand is all that is handed in, the same each time for a seed, with marked room behind each list's end.
func hand(t *testing.T, seed uint64) handed {
	t.Helper()
	d := &dice{seed}
	c := d.config()
	h := handed{id: 1, m: d.model(t, c), name: "a", d: d.adapter(t, c, 1+d.roll(4)), a: d.ask(c.Vocab)}
	for _, list := range slices.Concat(modelLists(&h.m), adapterLists(&h.d)) {
		*list = roomy(*list, 77)
	}
	for i := range h.m.Layers {
		l := &h.m.Layers[i]
		l.Up, l.Down = roomy(l.Up, []int8{77}), roomy(l.Down, []int8{77})
	}
	h.m.Layers, h.d.Layers = roomy(h.m.Layers, api.Layer{Q: []int8{77}}), roomy(h.d.Layers, api.Graft{QA: []int8{77}})
	h.a.Prompt = roomy(h.a.Prompt, 77)
	return h
}

// whole is what is handed in with all that lies behind its lists' ends.
func whole(h handed) handed {
	for _, list := range slices.Concat(modelLists(&h.m), adapterLists(&h.d)) {
		*list = (*list)[:len(*list)+3]
	}
	for i := range h.m.Layers {
		l := &h.m.Layers[i]
		l.Up, l.Down = l.Up[:len(l.Up)+3], l.Down[:len(l.Down)+3]
	}
	h.m.Layers, h.d.Layers = h.m.Layers[:len(h.m.Layers)+3], h.d.Layers[:len(h.d.Layers)+3]
	h.a.Prompt = h.a.Prompt[:len(h.a.Prompt)+3]
	return h
}

// spoil changes all of it, with the room behind it.
func spoil(h handed) {
	for _, list := range slices.Concat(modelLists(&h.m), adapterLists(&h.d)) {
		for i := range (*list)[:len(*list)+3] {
			(*list)[:len(*list)+3][i] = 55
		}
	}
	for i := range h.m.Layers {
		l := &h.m.Layers[i]
		for k := range l.Up {
			l.Up[k], l.Down[k] = nil, nil
		}
		h.m.Layers[i] = api.Layer{}
	}
	for i := range h.d.Layers {
		h.d.Layers[i] = api.Graft{}
	}
	for i := range h.a.Prompt {
		h.a.Prompt[i] = -7
	}
}

// R4: what is handed in is not changed, nor what lies behind its lists' ends, by Start, whether it is refused or not, and by Ticks.
func TestHandedInIsNotChanged(t *testing.T) {
	for seed := range uint64(120) {
		p := open(t, 256)
		r := hand(t, seed)
		p.s.Put("a", graft.Flat(r.d, r.m.Config))
		for id := range 3 {
			p.b.Start(id, r.m, r.name, r.d, r.a)
		}
		p.b.Start(1000000, r.m, r.name, r.d, r.a)
		p.b.Start(4, r.m, "b", r.d, r.a)
		for range 30 {
			p.b.Tick()
		}
		if got := len(p.b.Done()); got != 3 {
			t.Fatalf("seed %d: %d replies", seed, got)
		}
		if !reflect.DeepEqual(whole(r), whole(hand(t, seed))) {
			t.Fatalf("seed %d: what was handed in is changed", seed)
		}
	}
}

// 23.1: what was handed in is not kept: changed behind the call it changes nothing.
func TestHandedInIsNotKept(t *testing.T) {
	for seed := range uint64(200) {
		for _, ahead := range []int{0, 1, 2} {
			p := open(t, 256)
			r := hand(t, seed)
			tokens, vector, e := gen.Answer(r.m, r.d, r.a)
			if e != api.OK {
				t.Fatalf("seed %d: error %d", seed, e)
			}
			p.s.Put("a", graft.Flat(r.d, r.m.Config))
			p.b.Start(1, r.m, r.name, r.d, r.a)
			for range ahead {
				p.b.Tick()
			}
			spoil(r)
			for range 30 {
				p.b.Tick()
			}
			if want := []api.Reply{{Id: 1, Tokens: tokens, Vector: vector}}; !same(p.b.Done(), want) {
				t.Fatalf("seed %d: what was handed in was kept", seed)
			}
		}
	}
}

// R4: what is handed out is new memory.
func TestHandedOutIsNew(t *testing.T) {
	d := &dice{77}
	h := open(t, 256)
	m := d.model(t, narrow())
	h.start(3, m, "", none, greedy(1, 3))
	h.start(1, m, "", none, beams(1, 3, 4, -1))
	h.start(2, m, "", none, embed(3))
	h.start(0, m, "", none, embed(5))
	ids := h.b.Jobs()
	for i := range ids {
		ids[i] = 8
	}
	h.check("Jobs")
	h.tick(3)
	first := h.done()
	for _, r := range first {
		for _, list := range [][]int{r.Tokens, r.Vector} {
			list = list[:cap(list)]
			for i := range list {
				list[i] = -99
			}
		}
	}
	for i := range first[:cap(first)] {
		first[:cap(first)][i] = api.Reply{Id: 44}
	}
	h.start(1, m, "", none, beams(1, 3, 4, -1))
	h.tick(3)
	h.expect(0, 1)
	for i, r := range first[:cap(first)] {
		if r.Id != 44 {
			t.Errorf("the reply %d that was handed out is %+v", i, r)
		}
	}
}

// R4: no two lists of the replies share memory: changing one of them changes no other.
func TestRepliesShareNothing(t *testing.T) {
	d := &dice{78}
	h := open(t, 256)
	m := d.model(t, narrow())
	for id, a := range []api.Ask{greedy(1, 4), beams(1, 4, 4, -1), beams(1, 4, 2, -1), greedy(1, 4)} {
		h.start(id, m, "", none, a)
	}
	h.tick(4)
	got := h.done()
	for i := range got {
		was := make([][]int, len(got))
		for k := range got {
			was[k] = slices.Clone(got[k].Tokens)
		}
		for k := range got[i].Tokens[:cap(got[i].Tokens)] {
			got[i].Tokens[:cap(got[i].Tokens)][k] = 1000 + i
		}
		for k := range got {
			if k != i && !slices.Equal(got[k].Tokens, was[k]) {
				t.Errorf("the reply %d shares memory with %d", k, i)
			}
		}
	}
}
