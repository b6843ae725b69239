package batch

import (
	"fmt"
	"slices"
	"testing"

	"aviary/api"
	"aviary/beam"
	"aviary/graft"
	"aviary/pool"
	"aviary/shelf"
)

// house is a pool, a shelf and a batch beside what they must be; the ids are all that ever had a job.
type house struct {
	t     *testing.T
	p     *pool.Pool
	s     *shelf.Shelf
	b     *Batch
	w     *world
	ids   []int
	taken []int // the pages that somebody else has
	ticks int
}

// open is a house with so many pages, and nothing else.
func open(t *testing.T, pages int) *house {
	t.Helper()
	p, e := pool.New(pages)
	if e != api.OK {
		t.Fatalf("a pool of %d pages: error %d", pages, e)
	}
	s := shelf.New(p)
	h := &house{t: t, p: p, s: s, b: New(p, s), w: &world{t: t, all: pages}}
	h.check("New")
	return h
}

// check tells the first thing in which the house is not what it must be.
func (h *house) check(behind string) {
	h.t.Helper()
	all, free, aside := h.p.Sizes()
	if all != h.w.all || free != h.w.free() || aside != h.w.aside {
		h.t.Fatalf("behind %s: sizes %d, %d, %d; want %d, %d, %d", behind, all, free, aside, h.w.all, h.w.free(), h.w.aside)
	}
	var ids []int
	for _, one := range h.w.works {
		ids = append(ids, one.id)
	}
	if got := h.b.Jobs(); !slices.Equal(got, ids) {
		h.t.Fatalf("behind %s: jobs %v; want %v", behind, got, ids)
	}
	for _, id := range h.ids {
		runs, pages := false, 0
		if one := h.w.work(id); one != nil {
			runs, pages = one.runs, len(one.leaves())
		}
		if got := h.b.Running(id); got != runs {
			h.t.Fatalf("behind %s: that %d runs is %t", behind, id, got)
		}
		if got := h.p.Count(fmt.Sprint("r", id)); got != pages {
			h.t.Fatalf("behind %s: %d has %d pages; want %d", behind, id, got, pages)
		}
	}
	h.checkShelf(behind)
}

// checkShelf is check of the shelf alone.
func (h *house) checkShelf(behind string) {
	h.t.Helper()
	var lying []*card
	for _, c := range h.w.cards {
		if got := h.s.Pins(c.name); got != c.held {
			h.t.Fatalf("behind %s: %s is held %d times; want %d", behind, c.name, got, c.held)
		}
		if c.resident {
			lying = append(lying, c)
		}
	}
	slices.SortFunc(lying, func(a, b *card) int { return a.time - b.time })
	var names []string
	for _, c := range lying {
		names = append(names, c.name)
	}
	if got := h.s.Resident(); !slices.Equal(got, names) {
		h.t.Fatalf("behind %s: resident %q; want %q", behind, got, names)
	}
}

// put lays an adapter on the shelf.
func (h *house) put(name string, c api.Config, d api.Adapter) {
	h.t.Helper()
	w := graft.Flat(d, c)
	if e := h.s.Put(name, w); e != api.OK {
		h.t.Fatalf("no %s on the shelf: error %d", name, e)
	}
	h.w.cards = append(h.w.cards, &card{name: name, pages: pagesOf(len(w))})
}

// remove takes an adapter from the shelf, if nobody holds it.
func (h *house) remove(name string) {
	h.t.Helper()
	e := h.s.Remove(name)
	c := h.w.card(name)
	if (e == api.OK) != (c != nil && c.held == 0) {
		h.t.Fatalf("Remove(%s): error %d", name, e)
	}
	if e == api.OK {
		h.w.cards = slices.DeleteFunc(h.w.cards, func(other *card) bool { return other == c })
	}
	h.check("Remove")
}

// pin has somebody else hold an adapter, if there is room.
func (h *house) pin(name string) bool {
	h.t.Helper()
	e := h.s.Pin(name)
	if (e == api.OK) != h.w.pin(name) {
		h.t.Fatalf("Pin(%s): error %d", name, e)
	}
	h.check("Pin")
	return e == api.OK
}

// unpin has somebody else let go of an adapter.
func (h *house) unpin(name string) {
	h.t.Helper()
	if e := h.s.Unpin(name); e != api.OK {
		h.t.Fatalf("Unpin(%s): error %d", name, e)
	}
	h.w.card(name).held--
	h.check("Unpin")
}

// take has somebody else take so many pages; it tells whether there were as many.
func (h *house) take(k int) bool {
	h.t.Helper()
	pages, e := h.p.Take("x", k)
	if (e == api.OK) != (h.w.atHand() >= k) {
		h.t.Fatalf("Take of %d: error %d", k, e)
	}
	h.taken = append(h.taken, pages...)
	h.w.others += len(pages)
	h.check("Take")
	return e == api.OK
}

// give has somebody else drop so many pages.
func (h *house) give(k int) {
	h.t.Helper()
	for _, page := range h.taken[:k] {
		h.p.Drop(page)
	}
	h.taken = h.taken[k:]
	h.w.others -= k
	h.check("Drop")
}

// lay has somebody else lay so many pages aside, or fewer, if k is below 0; it tells whether that could be.
func (h *house) lay(k int) bool {
	h.t.Helper()
	e, can := api.OK, false
	if k >= 0 {
		can = h.w.atHand() >= k
		e = h.p.Reserve(k)
	} else {
		can = h.w.aside >= -k
		e = h.p.Unreserve(-k)
	}
	if (e == api.OK) != can {
		h.t.Fatalf("%d laid aside: error %d", k, e)
	}
	if can {
		h.w.aside += k
	}
	h.check("Reserve")
	return can
}

// start starts a job that is right.
func (h *house) start(id int, m api.Model, name string, d api.Adapter, a api.Ask) {
	h.t.Helper()
	h.ids = append(h.ids, id)
	if e := h.b.Start(id, m, name, d, a); e != api.OK {
		h.t.Fatalf("Start(%d) of %+v: error %d", id, a, e)
	}
	one := &work{id: id, m: m, name: name, d: d, a: a, answer: answer(h.t, id, m, d, a), branches: []branch{{}}}
	h.w.works = append(h.w.works, one)
	h.check("Start")
}

// refuse starts a job that is refused.
func (h *house) refuse(id int, m api.Model, name string, d api.Adapter, a api.Ask, want api.Errno) {
	h.t.Helper()
	if e := h.b.Start(id, m, name, d, a); e != want {
		h.t.Errorf("Start(%d, %q) of %+v: error %d; want %d", id, name, a, e, want)
	}
	h.check("a Start that is refused")
}

// cancel cancels a job, if it is there.
func (h *house) cancel(id int) bool {
	h.t.Helper()
	one := h.w.work(id)
	if got := h.b.Cancel(id); got != (one != nil) {
		h.t.Fatalf("Cancel(%d): %t", id, got)
	}
	if one != nil {
		h.w.leave(one)
	}
	h.check("Cancel")
	return one != nil
}

// tick is so many Ticks.
func (h *house) tick(n int) {
	h.t.Helper()
	for range n {
		h.ticks++
		h.b.Tick()
		h.w.tick()
		h.check(fmt.Sprint("Tick number ", h.ticks))
		h.checkTries()
	}
}

// checkTries holds each job's tries against what they must be.
func (h *house) checkTries() {
	h.t.Helper()
	for i, one := range h.w.works {
		tries := h.b.jobs[i].tries
		if len(tries) != len(one.branches) {
			h.t.Fatalf("%d has %d tries; want %d", one.id, len(tries), len(one.branches))
		}
		for k, b := range one.branches {
			if !sameBeam(tries[k].Beam, b.Beam) || (tries[k].rows == nil) != (b.thread == nil) {
				h.t.Fatalf("the try %d of %d is %+v; want %+v", k, one.id, tries[k], b)
			}
			if b.thread != nil && tries[k].rows.Len() != b.thread.next {
				h.t.Fatalf("the try %d of %d has %d rows; want %d", k, one.id, tries[k].rows.Len(), b.thread.next)
			}
		}
	}
}

// sameBeam tells whether two beams are the same.
func sameBeam(a, b beam.Beam) bool {
	return slices.Equal(a.Tokens, b.Tokens) && a.Score == b.Score && a.Done == b.Done
}

// done is the replies that are ready.
func (h *house) done() []api.Reply {
	h.t.Helper()
	got, want := h.b.Done(), h.w.ready
	h.w.ready = nil
	if !same(got, want) {
		h.t.Fatalf("behind %d Ticks: replies %+v; want %+v", h.ticks, got, want)
	}
	h.check("Done")
	return got
}

// expect is done, of replies to these ids alone, in that order.
func (h *house) expect(ids ...int) {
	h.t.Helper()
	var got []int
	for _, r := range h.done() {
		got = append(got, r.Id)
	}
	if !slices.Equal(got, ids) {
		h.t.Fatalf("behind %d Ticks: replies to %v; want %v", h.ticks, got, ids)
	}
}

// running tells whether just these of all ids run.
func (h *house) running(ids ...int) {
	h.t.Helper()
	for _, id := range h.ids {
		if got := h.b.Running(id); got != slices.Contains(ids, id) {
			h.t.Fatalf("behind %d Ticks: that %d runs is %t", h.ticks, id, got)
		}
	}
}

// pages tells whether a tag has so many pages.
func (h *house) pages(tag string, want int) {
	h.t.Helper()
	if got := h.p.Count(tag); got != want {
		h.t.Fatalf("behind %d Ticks: %s has %d pages; want %d", h.ticks, tag, got, want)
	}
}
