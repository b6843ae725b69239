package batch

import (
	"math"
	"slices"
	"strings"
	"testing"

	"aviary/api"
	"aviary/graft"
	"aviary/pool"
	"aviary/shelf"
)

// any is any number, most often far off.
func (d *dice) any() int {
	list := append(ends(), 0, 1, 2, 3, 4, 5, 8, 24, 999999, 1000000)
	return list[d.roll(len(list))]
}

// bend changes something of what is handed in, whatever comes of it.
func (d *dice) bend(h *handed) {
	c, a := &h.m.Config, &h.a
	numbers := []*int{
		&h.id, &c.Dim, &c.Heads, &c.Layers, &c.Vocab, &c.Hidden, &c.Experts, &c.TopK, &c.Window, &h.d.Rank, &h.d.Shift,
		&a.Kind, &a.Length, &a.Stop, &a.TopK, &a.Beams, &a.Penalty, &a.Prompt[0],
	}
	switch d.roll(5) {
	case 0, 1:
		*numbers[d.roll(len(numbers))] = d.any()
	case 2:
		lists := slices.Concat(modelLists(&h.m), adapterLists(&h.d))
		if len(lists) > 0 {
			list := lists[d.roll(len(lists))]
			*list = [][]int8{nil, append(*list, 1), make([]int8, 3)}[d.roll(3)]
		}
	case 3:
		a.Heat = []float64{math.NaN(), math.Inf(1), math.Inf(-1), math.MaxFloat64, math.SmallestNonzeroFloat64, -1}[d.roll(6)]
	case 4:
		h.name = []string{"", "a", "b", strings.Repeat("x", 1000), "\x00"}[d.roll(5)]
	}
}

// 23.1, R1: no call ends in a panic, whatever is handed in.
func TestStartWithAnything(t *testing.T) {
	d := &dice{1 << 40}
	h := open(t, 12)
	for range 6000 {
		c := d.config()
		r := handed{d.roll(6), d.model(t, c), "a", d.adapter(t, c, 1+d.roll(4)), d.ask(c.Vocab)}
		h.s.Put("a", graft.Flat(r.d, c))
		for range d.roll(4) {
			d.bend(&r)
		}
		if d.roll(20) == 0 {
			r.m.Layers, r.d.Layers = nil, nil
		}
		h.b.Start(r.id, r.m, r.name, r.d, r.a)
		h.b.Tick()
		h.b.Cancel(d.roll(6))
		h.b.Cancel(d.any())
		h.b.Running(d.any())
		h.b.Jobs()
		h.b.Done()
		h.s.Remove("a")
	}
	h.b.Start(1, api.Model{}, "", none, api.Ask{})
}

// R1: a prompt that is longer than any limit is refused, however long it is.
func TestStartLongPrompt(t *testing.T) {
	h := open(t, 40)
	m := blank(t, narrow())
	h.refuse(1, m, "", none, greedy(1<<20, 1), api.TooLong)
	h.refuse(1, m, "", none, embed(25), api.TooLong)
	h.refuse(1, m, "", none, greedy(24, 1), api.TooLong)
	h.start(1, m, "", none, greedy(23, 1))
	h.start(2, m, "", none, embed(24))
	h.tick(24)
	h.expect(1, 2)
}

// meddle is a call by which somebody else touches pages and adapters that are not his.
func (d *dice) meddle(p *pool.Pool, s *shelf.Shelf) {
	all, _, _ := p.Sizes()
	page := d.roll(all)
	switch d.roll(8) {
	case 0, 1:
		p.Drop(page)
	case 2:
		p.Share(page)
	case 3:
		p.Put(page, d.roll(32), int64(d.any()))
	case 4:
		p.Take("y", d.roll(3))
	case 5:
		s.Unpin("a")
	case 6:
		s.Remove("a")
	case 7:
		p.Reserve(d.roll(2))
	}
}

// R1: no call ends in a panic, also where somebody else drops, shares or changes pages of jobs, or lets go of their adapters.
func TestMeddledWith(t *testing.T) {
	for seed := range uint64(400) {
		d := &dice{seed<<30 + 2}
		c := d.config()
		m, a := d.model(t, c), d.adapter(t, c, 1)
		p, _ := pool.New(4 + d.roll(30))
		s := shelf.New(p)
		b := New(p, s)
		for range 60 {
			s.Put("a", graft.Flat(a, c))
			name, adapter := "a", a
			if d.roll(2) == 0 {
				name, adapter = "", none
			}
			b.Start(d.roll(9), m, name, adapter, d.ask(c.Vocab))
			d.meddle(p, s)
			b.Tick()
			if d.roll(4) == 0 {
				b.Cancel(d.roll(9))
			}
			b.Jobs()
			b.Done()
		}
	}
}

// R1: nor where the shelf's pages are those of another pool.
func TestShelfOfAnotherPool(t *testing.T) {
	for seed := range uint64(100) {
		d := &dice{seed<<30 + 3}
		c := d.config()
		m, a := d.model(t, c), d.adapter(t, c, 1)
		p, _ := pool.New(1 + d.roll(8))
		other, _ := pool.New(40)
		s := shelf.New(other)
		b := New(p, s)
		s.Put("a", graft.Flat(a, c))
		for range 60 {
			b.Start(d.roll(9), m, "a", a, d.ask(c.Vocab))
			b.Tick()
		}
		for id := range 9 {
			b.Cancel(id)
		}
		if _, free, _ := p.Sizes(); free != sizeOf(p) || s.Pins("a") != 0 {
			t.Fatalf("seed %d: with no jobs %d pages are free, a is held %d times", seed, free, s.Pins("a"))
		}
	}
}

// sizeOf is how many pages a pool has.
func sizeOf(p *pool.Pool) int {
	all, _, _ := p.Sizes()
	return all
}

// 23.3: where the shelf's pages are shared by somebody else, Room tells more than can be had: no row is lost, and all goes on once they are free.
func TestSharedShelfPages(t *testing.T) {
	h, m, _ := weighed(t, 4, 33)
	h.pin("b")
	h.unpin("b")
	h.p.Share(0)
	h.p.Share(1)
	h.start(0, m, "", none, greedy(1, 4))
	for range 6 {
		h.b.Tick()
	}
	if len(h.b.Jobs()) != 1 || len(h.b.Done()) != 0 {
		t.Fatalf("jobs %v", h.b.Jobs())
	}
	h.p.Drop(0)
	h.p.Drop(1)
	for range 4 {
		h.b.Tick()
	}
	if got := h.b.Done(); !same(got, []api.Reply{answer(t, 0, m, none, greedy(1, 4))}) {
		t.Errorf("replies %+v", got)
	}
}
