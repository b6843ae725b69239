package batch

import (
	"fmt"
	"math"
	"slices"
	"strings"
	"testing"

	"aviary/api"
	"aviary/ckpt"
	"aviary/gen"
	"aviary/graft"
)

// handed is all that is handed to Start.
type handed struct {
	id   int
	m    api.Model
	name string
	d    api.Adapter
	a    api.Ask
}

// fault is a change by which what is handed in has one fault more, and the error that it has.
type fault struct {
	what string
	e    api.Errno
	make func(h *handed)
}

// faults is all kinds of faults, in the order in which they are told; those with the same order stand by groups.
func faults() [][]fault {
	return [][]fault{
		{
			{"an id of -1", api.ErrRange, func(h *handed) { h.id = -1 }},
			{"an id of 1000000", api.ErrRange, func(h *handed) { h.id = 1000000 }},
			{"an id of 2^32", api.ErrRange, func(h *handed) { h.id = 1 << 32 }},
		},
		{{"an id that there is", api.ErrTwice, func(h *handed) { h.id = 100 }}},
		// The fault of the fifth job is not of what is handed in; see fifth.
		{
			{"a Dim of 3", api.ErrRange, func(h *handed) { h.m.Config.Dim = 3 }},
			{"no Vocab", api.ErrRange, func(h *handed) { h.m.Config.Vocab = 0 }},
			{"no model", api.ErrRange, func(h *handed) { h.m = api.Model{} }},
			{"no Out", api.ErrShape, func(h *handed) { h.m.Out = nil }},
			{"a layer less", api.ErrShape, func(h *handed) { h.m.Layers = h.m.Layers[1:] }},
		},
		{
			{"an adapter that is not on the shelf", api.ErrNone, func(h *handed) { h.name = "b" }},
			{"a name that is too long", api.ErrNone, func(h *handed) { h.name = strings.Repeat("a", 17) }},
			{"no name of an adapter", api.ErrNone, func(h *handed) { h.name, h.d.Rank = "", 1 }},
			{"no name of an adapter below", api.ErrNone, func(h *handed) { h.name, h.d.Rank = "", -1 }},
		},
		{
			{"a rank of 5", api.ErrRange, func(h *handed) { h.name, h.d.Rank = "a", 5 }},
			{"a shift of 9", api.ErrRange, func(h *handed) { h.name, h.d.Shift = "a", 9 }},
			{"a rank of 0 on the shelf", api.ErrRange, func(h *handed) { h.name, h.d = "a", none }},
			{"no layers of an adapter", api.ErrShape, func(h *handed) { h.name, h.d.Layers = "a", nil }},
		},
		{
			{"no prompt", api.Malformed, func(h *handed) { h.a.Prompt = nil }},
			{"a token beyond", api.Malformed, func(h *handed) { h.a.Prompt = []int{5} }},
			{"the kind 0", api.Malformed, func(h *handed) { h.a.Kind = 0 }},
			{"a heat that is none", api.Malformed, func(h *handed) { h.a.Kind, h.a.TopK, h.a.Heat = api.Sample, 1, math.NaN() }},
			{"a length of 23", api.TooLong, func(h *handed) { h.a.Length = 23 }},
			{"the greatest length", api.TooLong, func(h *handed) { h.a.Length = most }},
		},
	}
}

// right is what is handed in without a fault, with the adapter a.
func right(t *testing.T) handed {
	d := &dice{7}
	c := wide()
	return handed{id: 5, m: d.model(t, c), name: "a", d: d.adapter(t, c, 2), a: greedy(2, 2)}
}

// stocked is a house with the adapter a on its shelf, and a job with the id 100.
func stocked(t *testing.T) *house {
	t.Helper()
	h := open(t, 8)
	r := right(t)
	h.put("a", r.m.Config, r.d)
	h.start(100, r.m, "", none, greedy(1, 1))
	return h
}

// 23.1: each error by itself; what is refused changes nothing.
func TestStartErrors(t *testing.T) {
	h := stocked(t)
	for _, group := range faults() {
		for _, f := range group {
			r := right(t)
			f.make(&r)
			t.Log(f.what)
			h.refuse(r.id, r.m, r.name, r.d, r.a, f.e)
		}
	}
	r := right(t)
	h.start(r.id, r.m, r.name, r.d, r.a)
}

// 23.1: of two errors that both hold the one that is named first.
func TestStartFirstError(t *testing.T) {
	h := stocked(t)
	groups := faults()
	for i, ahead := range groups {
		for _, first := range ahead {
			for _, second := range slices.Concat(groups[i+1:]...) {
				r := right(t)
				// The later one ahead, as an earlier one may take away what it changes.
				second.make(&r)
				first.make(&r)
				t.Log(first.what, "and", second.what)
				h.refuse(r.id, r.m, r.name, r.d, r.a, first.e)
			}
		}
	}
}

// 23.1: the fifth job is refused, behind what is told of its id, and ahead of all else.
func TestStartFifth(t *testing.T) {
	h := stocked(t)
	r := right(t)
	for id := range 3 {
		h.start(200+id, r.m, r.name, r.d, r.a)
	}
	h.refuse(r.id, r.m, r.name, r.d, r.a, api.ErrState)
	for i, group := range faults() {
		for _, f := range group {
			r := right(t)
			f.make(&r)
			want := api.ErrState
			if i < 2 {
				want = f.e
			}
			t.Log(f.what)
			h.refuse(r.id, r.m, r.name, r.d, r.a, want)
		}
	}
	h.cancel(201)
	h.start(r.id, r.m, r.name, r.d, r.a)
	h.refuse(6, r.m, r.name, r.d, r.a, api.ErrState)
}

// 23.1: the ids at both ends, and one beyond each.
func TestStartIds(t *testing.T) {
	h := open(t, 8)
	m := blank(t, wide())
	for _, id := range slices.Concat(ends(), []int{-1, 1000000, 1000001}) {
		if id < 0 || id > 999999 {
			h.refuse(id, m, "", none, greedy(1, 1), api.ErrRange)
		}
	}
	for _, id := range []int{0, 999999, 1, 999998} {
		h.start(id, m, "", none, greedy(1, 2))
		h.refuse(id, m, "", none, greedy(1, 2), api.ErrTwice)
	}
	h.tick(1)
	h.pages("r0", 1)
	h.pages("r999999", 1)
	h.tick(1)
	h.expect(0, 999999, 1, 999998)
}

// 23.1: an id that was used is free again, once its job was cancelled, or is ready (also while its reply is not asked for).
func TestStartAgain(t *testing.T) {
	h := open(t, 8)
	m := blank(t, wide())
	h.start(3, m, "", none, greedy(2, 1))
	h.tick(1)
	h.refuse(3, m, "", none, greedy(2, 1), api.ErrTwice)
	h.cancel(3)
	h.start(3, m, "", none, embed(1))
	h.refuse(3, m, "", none, embed(1), api.ErrTwice)
	h.tick(1)
	h.start(3, m, "", none, greedy(1, 1))
	h.tick(1)
	h.expect(3, 3)
	h.start(3, m, "", none, greedy(1, 1))
}

// 23.1: an adapter is none by its name and its rank alone; one on the shelf may be held by nobody, or by somebody else.
func TestStartAdapters(t *testing.T) {
	h := open(t, 16)
	r := right(t)
	c := r.m.Config
	other := r.d
	other.Rank, other.Shift = 0, 99
	h.start(1, r.m, "", other, r.a)
	h.refuse(2, r.m, "", r.d, r.a, api.ErrNone)
	h.refuse(2, r.m, "a", r.d, r.a, api.ErrNone)
	h.refuse(2, r.m, "a", none, r.a, api.ErrNone)
	h.put("a", c, r.d)
	h.refuse(2, r.m, "", r.d, r.a, api.ErrNone)
	h.refuse(2, r.m, "A", r.d, r.a, api.ErrNone)
	h.start(2, r.m, "a", r.d, r.a)
	h.pin("a")
	h.start(3, r.m, "a", r.d, r.a)
	h.unpin("a")
	h.cancel(2)
	h.cancel(3)
	h.remove("a")
	h.refuse(2, r.m, "a", r.d, r.a, api.ErrNone)
}

// 23.1: a job that was started is put off, has no page, and does not hold its adapter.
func TestStartIsPutOff(t *testing.T) {
	h := stocked(t)
	r := right(t)
	h.start(r.id, r.m, r.name, r.d, r.a)
	h.running()
	h.pages("r5", 0)
	if _, free, _ := h.p.Sizes(); free != 8 || h.s.Pins("a") != 0 {
		t.Errorf("%d pages are free, a is held %d times", free, h.s.Pins("a"))
	}
}

// 23.1: each error of the chapter's list is the one of the layer that is named there, for models, adapters and asks of many kinds.
func TestStartAsLayersSay(t *testing.T) {
	d := &dice{99}
	h := open(t, 8)
	seen := map[api.Errno]int{}
	for range 3000 {
		c := d.config()
		r := handed{id: 1, m: d.model(t, c), name: "a", d: d.adapter(t, c, 1+d.roll(4)), a: d.ask(c.Vocab)}
		odd := func() int { return slices.Concat(ends(), []int{0, 1, 2, 3, 4, 5, 8, 9, 16, 17, 24, 25})[d.roll(31)] }
		for _, p := range []*int{&r.m.Config.Dim, &r.m.Config.Heads, &r.m.Config.Window, &r.d.Rank, &r.d.Shift, &r.a.Kind, &r.a.Length, &r.a.Stop, &r.a.TopK, &r.a.Beams, &r.a.Penalty, &r.a.Prompt[0]} {
			if d.roll(30) == 0 {
				*p = odd()
			}
		}
		h.s.Put("a", graft.Flat(r.d, c))
		want := ckpt.Check(r.m)
		if want == api.OK {
			want = graft.Check(r.d, r.m.Config)
		}
		if want == api.OK {
			want = gen.Check(r.m.Config, r.a)
		}
		if e := h.b.Start(r.id, r.m, r.name, r.d, r.a); e != want {
			t.Fatalf("Start of %+v, %+v: error %d; want %d", r.m.Config, r.a, e, want)
		}
		if h.b.Cancel(r.id) != (want == api.OK) {
			t.Fatalf("the job of %+v, %+v, error %d, is there, or not", r.m.Config, r.a, want)
		}
		seen[want]++
		h.s.Remove("a")
	}
	for _, e := range []api.Errno{api.OK, api.ErrRange, api.Malformed, api.TooLong} {
		if seen[e] < 20 {
			t.Errorf("error %d: %d times", e, seen[e])
		}
	}
	if fmt.Sprint(h.b.Jobs()) != "[]" {
		t.Errorf("jobs %v", h.b.Jobs())
	}
}
