package batch

import (
	"fmt"
	"testing"

	"aviary/api"
	"aviary/graft"
)

// step is what is to be seen behind a Tick: who runs, who is ready, and how many pages each id from 0 on has.
type step struct {
	runs  []int
	ready []int
	pages []int
}

// walk is a Tick for each step, behind which all is as it says.
func (h *house) walk(steps ...step) {
	h.t.Helper()
	for _, s := range steps {
		h.tick(1)
		h.running(s.runs...)
		h.expect(s.ready...)
		for id, pages := range s.pages {
			h.pages(fmt.Sprint("r", id), pages)
		}
	}
}

// The chapter's example.
func TestExample(t *testing.T) {
	h := open(t, 4)
	h.start(0, blank(t, narrow()), "", none, greedy(2, 2))
	h.walk(step{runs: []int{0}}, step{runs: []int{0}})
	h.tick(1)
	if got, want := h.done(), []api.Reply{{Id: 0, Code: api.OK, Tokens: []int{0, 0}}}; !same(got, want) {
		t.Errorf("replies %+v; want %+v", got, want)
	}
}

// 23.3: each kind, with an adapter and without, with windows and without, is ready behind as many Ticks as it has rows.
func TestTickKinds(t *testing.T) {
	d := &dice{11}
	differs := 0
	for _, c := range []api.Config{narrow(), wide(), windowed(narrow(), 1), windowed(wide(), 2), windowed(narrow(), 3), windowed(wide(), 16)} {
		for kind := 1; kind <= 4; kind++ {
			for _, rank := range []int{0, 1, 4} {
				m, a, name := d.model(t, c), none, ""
				h := open(t, 256)
				if rank > 0 {
					a, name = d.adapter(t, c, rank), "a"
					h.put(name, c, a)
				}
				ask := api.Ask{Kind: kind, Prompt: d.tokens(5, 5), Length: 4, Stop: -1, Seed: 9, TopK: 4, Heat: 3, Beams: 3}
				h.start(0, m, name, a, ask)
				rows := 8
				if kind == api.Embed {
					rows = 5
				}
				h.tick(rows - 1)
				h.running(0)
				h.expect()
				h.tick(1)
				h.expect(0)
				if !same([]api.Reply{answer(t, 0, m, a, ask)}, []api.Reply{answer(t, 0, m, none, ask)}) {
					differs++
				}
			}
		}
	}
	if differs < 10 {
		t.Errorf("an adapter changes %d answers alone", differs)
	}
}

// 23.3: a job is begun with just the pages that its prompt takes, and not with one less, till somebody else gives one back; with no page for its next row it goes on running, and waits.
func TestTickJustRoom(t *testing.T) {
	d := &dice{12}
	h := open(t, 5)
	h.start(0, d.model(t, wide()), "", none, greedy(3, 3))
	h.take(3)
	h.walk(step{pages: []int{0}}, step{pages: []int{0}})
	h.give(1)
	h.walk(
		step{runs: []int{0}, pages: []int{1}},
		step{runs: []int{0}, pages: []int{2}},
		step{runs: []int{0}, pages: []int{3}},
		step{runs: []int{0}, pages: []int{3}},
		step{runs: []int{0}, pages: []int{3}},
	)
	h.give(1)
	h.walk(step{runs: []int{0}, pages: []int{4}}, step{runs: []int{0}, pages: []int{4}})
	h.give(1)
	h.walk(step{ready: []int{0}, pages: []int{0}})
}

// 23.3: pages hold as many rows as fit into them: of three to a page, six need two pages and seven three.
func TestTickRowsOfPages(t *testing.T) {
	d := &dice{13}
	c := wide()
	c.Dim, c.Heads, c.Layers = 2, 1, 2 // four rows to a page
	for _, one := range []struct{ dim, layers, prompt, pages int }{
		{2, 2, 4, 1}, {2, 2, 5, 2}, {2, 2, 8, 2}, {2, 2, 9, 3}, {4, 1, 4, 1}, {4, 1, 5, 2}, {6, 1, 2, 1}, {6, 1, 3, 2}, {6, 2, 1, 1}, {6, 2, 2, 2}, {8, 1, 2, 1}, {8, 1, 3, 2}, {2, 1, 8, 1}, {2, 1, 9, 2}, {2, 1, 24, 3}, {8, 2, 24, 24},
	} {
		c.Dim, c.Layers = one.dim, one.layers
		m := d.model(t, c)
		if one.pages > 1 {
			h := open(t, one.pages-1)
			h.start(0, m, "", none, embed(one.prompt))
			h.walk(step{pages: []int{0}}, step{pages: []int{0}})
		}
		h := open(t, one.pages)
		h.start(0, m, "", none, embed(one.prompt))
		h.tick(one.prompt)
		h.expect(0)
	}
}

// 23.3: pages that somebody else lays aside are not at hand, and are again once they are not.
func TestTickReserved(t *testing.T) {
	d := &dice{14}
	h := open(t, 4)
	h.start(0, d.model(t, wide()), "", none, greedy(1, 4))
	h.lay(4)
	h.walk(step{}, step{})
	h.lay(-1)
	h.walk(step{runs: []int{0}, pages: []int{1}}, step{runs: []int{0}, pages: []int{1}})
	h.lay(-2)
	h.walk(step{runs: []int{0}, pages: []int{2}}, step{runs: []int{0}, pages: []int{3}}, step{runs: []int{0}, pages: []int{3}})
	h.lay(-1)
	h.walk(step{ready: []int{0}, pages: []int{0}})
}

// 23.3: a job that is put off for an older one is begun again with the tokens that it has.
func TestTickPutOff(t *testing.T) {
	d := &dice{15}
	h := open(t, 4)
	m := d.model(t, wide())
	h.start(0, m, "", none, greedy(2, 3))
	h.start(1, m, "", none, greedy(1, 3))
	h.walk(
		step{runs: []int{0, 1}, pages: []int{1, 1}},
		step{runs: []int{0, 1}, pages: []int{2, 2}},
		// Of four pages the older one has three now, and the younger one would need three.
		step{runs: []int{0}, pages: []int{3, 0}},
		step{runs: []int{1}, ready: []int{0}, pages: []int{0, 1}},
		step{runs: []int{1}, pages: []int{0, 2}},
		step{ready: []int{1}, pages: []int{0, 0}},
	)
}

// 23.2: the youngest that runs is put off first, and no more than are needed; one that is older than the one that wants room never.
func TestTickYoungestFirst(t *testing.T) {
	d := &dice{16}
	h := open(t, 6)
	m := d.model(t, wide())
	for id := range 3 {
		h.start(id, m, "", none, greedy(1, 8))
	}
	h.walk(
		step{runs: []int{0, 1, 2}, pages: []int{1, 1, 1}},
		step{runs: []int{0, 1, 2}, pages: []int{2, 2, 2}},
		step{runs: []int{0, 1}, pages: []int{3, 3, 0}},
		step{runs: []int{0}, pages: []int{4, 0, 0}},
		step{runs: []int{0}, pages: []int{5, 0, 0}},
		step{runs: []int{0}, pages: []int{6, 0, 0}},
		// Nobody younger runs: it fails, and keeps its rows.
		step{runs: []int{0}, pages: []int{6, 0, 0}},
	)
}

// 23.2: the youngest job may be put off already: then the youngest of those that run.
func TestTickYoungestRunning(t *testing.T) {
	d := &dice{17}
	h := open(t, 6)
	m := d.model(t, wide())
	h.start(0, m, "", none, greedy(1, 8))
	h.start(1, m, "", none, greedy(1, 8))
	h.start(2, m, "", none, embed(6))
	h.walk(
		step{runs: []int{0, 1}, pages: []int{1, 1, 0}},
		step{runs: []int{0, 1}, pages: []int{2, 2, 0}},
		step{runs: []int{0, 1}, pages: []int{3, 3, 0}},
		step{runs: []int{0}, pages: []int{4, 0, 0}},
	)
}

// 23.2: for one that fails, all the younger ones are put off all the same; they begin again in the same Tick, if there is room, and go on when the older one is gone.
func TestTickFailsAndPutsOff(t *testing.T) {
	d := &dice{18}
	h := open(t, 3)
	m := d.model(t, wide())
	h.start(0, m, "", none, greedy(4, 1))
	h.start(1, m, "", none, embed(2))
	for range 12 {
		h.walk(step{runs: []int{1}, pages: []int{0, 1}})
	}
	h.cancel(0)
	h.walk(step{ready: []int{1}})
}

// 23.3: a job that is ready leaves its pages to younger ones within the same Tick.
func TestTickReadyLeaves(t *testing.T) {
	d := &dice{19}
	h := open(t, 3)
	m := d.model(t, wide())
	h.start(0, m, "", none, embed(2))
	h.start(1, m, "", none, embed(3))
	h.start(2, m, "", none, embed(1))
	h.walk(
		step{runs: []int{0}, ready: []int{2}, pages: []int{1, 0, 0}},
		step{runs: []int{1}, ready: []int{0}, pages: []int{0, 1, 0}},
		step{runs: []int{1}, pages: []int{0, 2, 0}},
		step{ready: []int{1}, pages: []int{0, 0, 0}},
	)
}

// 23.2: what came out for an Embed is forgotten, when it is put off.
func TestTickEmbedForgets(t *testing.T) {
	d := &dice{20}
	h := open(t, 4)
	m := d.model(t, wide())
	h.start(0, m, "", none, greedy(1, 4))
	h.start(1, m, "", none, embed(3))
	h.walk(
		step{runs: []int{0, 1}, pages: []int{1, 1}},
		step{runs: []int{0, 1}, pages: []int{2, 2}},
		step{runs: []int{0}, pages: []int{3, 0}},
		step{runs: []int{1}, ready: []int{0}, pages: []int{0, 1}},
		step{runs: []int{1}, pages: []int{0, 2}},
		step{ready: []int{1}},
	)
}

// 23.3: through a window less rows stay than were begun with; behind a putting off as many pages as at first are asked for.
func TestTickWindow(t *testing.T) {
	d := &dice{21}
	h := open(t, 5)
	m := d.model(t, windowed(wide(), 2))
	h.start(0, d.model(t, wide()), "", none, greedy(1, 3))
	h.start(1, m, "", none, greedy(3, 3))
	h.walk(
		step{runs: []int{0, 1}, pages: []int{1, 1}},
		step{runs: []int{0, 1}, pages: []int{2, 1}},
		step{runs: []int{1}, ready: []int{0}, pages: []int{0, 1}},
	)
	h.take(4)
	h.walk(step{runs: []int{1}, pages: []int{0, 1}})
	h.give(1)
	h.walk(step{runs: []int{1}, pages: []int{0, 1}}, step{ready: []int{1}, pages: []int{0, 0}})
	for window, pages := range []int{3: 2, 4: 3, 5: 4} {
		h := open(t, 8)
		h.start(0, d.model(t, windowed(wide(), window)), "", none, greedy(4, 4))
		if pages > 0 {
			h.tick(6)
			h.pages("r0", pages)
		}
	}
}

// 23.3: one that is begun again has room asked for all its rows, also those that no window shows.
func TestTickWindowAgain(t *testing.T) {
	d := &dice{22}
	h := open(t, 6)
	h.start(0, d.model(t, wide()), "", none, greedy(1, 6))
	h.start(1, d.model(t, windowed(wide(), 1)), "", none, greedy(1, 6))
	h.walk(
		step{runs: []int{0, 1}, pages: []int{1, 0}},
		step{runs: []int{0, 1}, pages: []int{2, 0}},
		step{runs: []int{0, 1}, pages: []int{3, 0}},
		step{runs: []int{0, 1}, pages: []int{4, 0}},
	)
	h.take(1)
	h.walk(
		// The younger one waits for a page, and is put off in vain for the older one, that has none either.
		step{runs: []int{0, 1}, pages: []int{5, 0}},
		step{runs: []int{0}, pages: []int{5, 0}},
	)
	h.cancel(0)
	h.take(1)
	// Its four tokens and its prompt need five pages, though it has no more than one of them at once.
	h.walk(step{}, step{})
	h.give(1)
	h.walk(step{runs: []int{1}, pages: []int{0, 0}})
	h.tick(4)
	h.expect()
	h.walk(step{ready: []int{1}})
}

// weighed is a house with so many pages, whose shelf has the adapters a and b of two pages each, for wide models.
func weighed(t *testing.T, pages int, seed uint64) (*house, api.Model, api.Adapter) {
	t.Helper()
	d := &dice{seed}
	c := wide()
	h := open(t, pages)
	m, a := d.model(t, c), d.adapter(t, c, 1)
	h.put("a", c, a)
	h.put("b", c, d.adapter(t, c, 1))
	return h, m, a
}

// 23.3: for an adapter that nobody holds room is made, too: with just so many pages the job begins, with one less it does not.
func TestTickAdapter(t *testing.T) {
	h, m, a := weighed(t, 3, 23)
	h.take(1)
	h.start(0, m, "a", a, greedy(1, 1))
	h.walk(step{pages: []int{0}}, step{pages: []int{0}})
	h.pages("+a", 0)
	h.give(1)
	h.walk(step{ready: []int{0}})
	h.pages("+a", 2)
	h.start(0, m, "a", a, greedy(1, 2))
	h.walk(step{runs: []int{0}, pages: []int{1}})
	if h.s.Pins("a") != 1 {
		t.Errorf("a is held %d times", h.s.Pins("a"))
	}
	h.cancel(0)
	if h.s.Pins("a") != 0 {
		t.Errorf("a is held %d times", h.s.Pins("a"))
	}
	// Resident, and held by nobody: its pages are room, and are asked for.
	h.start(0, m, "a", a, greedy(2, 1))
	h.walk(step{pages: []int{0}}, step{pages: []int{0}})
	h.pages("+a", 2)
}

// 23.3: for an adapter that another job, or somebody else, holds no room is made.
func TestTickAdapterHeld(t *testing.T) {
	h, m, a := weighed(t, 4, 24)
	h.start(0, m, "a", a, embed(3))
	h.start(1, m, "a", a, embed(1))
	h.take(1)
	h.walk(step{pages: []int{0, 0}, ready: []int{1}})
	h.pages("+a", 2)
	h.pin("a")
	// Two pages lie under it: the third one is one of three.
	h.walk(step{pages: []int{0, 0}})
	h.give(1)
	h.cancel(0)
	h.start(0, m, "a", a, embed(2))
	h.walk(step{runs: []int{0}, pages: []int{1}}, step{ready: []int{0}})
	h.unpin("a")
}

// 23.3: two jobs with the same adapter: each holds it, and one that is ready lets go of it once.
func TestTickAdapterShared(t *testing.T) {
	h, m, a := weighed(t, 5, 25)
	h.start(0, m, "a", a, embed(2))
	h.start(1, m, "a", a, greedy(1, 2))
	h.walk(step{runs: []int{0, 1}, pages: []int{1, 1}})
	if h.s.Pins("a") != 2 {
		t.Errorf("a is held %d times", h.s.Pins("a"))
	}
	// The older one's second page is the last: the younger one waits for it, and has it, as the older one is ready.
	h.walk(step{ready: []int{0, 1}})
	if h.s.Pins("a") != 0 {
		t.Errorf("a is held %d times", h.s.Pins("a"))
	}
}

// 23.3: how much room is made for is asked ahead of putting anybody off: what a younger one holds then counts as held.
func TestTickAdapterOfYounger(t *testing.T) {
	h, m, a := weighed(t, 4, 26)
	h.start(0, m, "a", a, embed(3))
	h.start(1, m, "a", a, greedy(1, 5))
	h.walk(
		step{runs: []int{1}, pages: []int{0, 1}},
		// Three pages are asked for, and there are four with the younger one put off.
		step{runs: []int{0}, pages: []int{1, 0}},
		step{runs: []int{0}, pages: []int{2, 0}},
		step{runs: []int{0}, pages: []int{2, 0}},
	)
}

// 23.3: adapters that nobody holds leave their pages to rows, as late as can be; those that are held do not.
func TestTickYields(t *testing.T) {
	h, m, a := weighed(t, 5, 27)
	h.pin("a")
	h.pin("b")
	h.unpin("b")
	h.start(0, m, "", none, greedy(1, 5))
	h.walk(step{runs: []int{0}, pages: []int{1}})
	h.pages("+b", 2)
	h.walk(step{runs: []int{0}, pages: []int{2}})
	h.pages("+b", 0)
	h.walk(step{runs: []int{0}, pages: []int{3}}, step{runs: []int{0}, pages: []int{3}})
	h.pages("+a", 2)
	h.unpin("a")
	h.walk(step{runs: []int{0}, pages: []int{4}})
	h.pages("+a", 0)
	h.walk(step{ready: []int{0}})
	h.start(0, m, "a", a, embed(3))
	h.tick(3)
	h.expect(0)
}

// 23.3: one adapter makes place for another, when that is pinned.
func TestTickAdaptersByTurns(t *testing.T) {
	d := &dice{28}
	c := wide()
	h := open(t, 3)
	m, a, b := d.model(t, c), d.adapter(t, c, 1), d.adapter(t, c, 1)
	h.put("a", c, a)
	h.put("b", c, b)
	h.start(0, m, "a", a, embed(1))
	h.start(1, m, "b", b, embed(1))
	h.start(2, m, "a", a, embed(1))
	h.start(3, m, "b", b, embed(1))
	h.walk(step{ready: []int{0, 1, 2, 3}})
	h.pages("+a", 0)
	h.pages("+b", 2)
}

// 23.3: where the shelf's Pin has an error nothing more is done for the job, till it has none.
func TestTickPinFails(t *testing.T) {
	h, m, a := weighed(t, 6, 29)
	c := m.Config
	h.start(0, m, "a", a, embed(2))
	h.start(1, m, "", none, embed(2))
	h.remove("a")
	h.walk(step{runs: []int{1}, pages: []int{0, 1}}, step{ready: []int{1}, pages: []int{0, 0}})
	h.put("a", c, a)
	h.walk(step{runs: []int{0}, pages: []int{1}}, step{ready: []int{0}})
	// Room counts pages of what nobody holds, also such as somebody else shares: they cannot be had.
	h, m, a = weighed(t, 4, 30)
	h.pin("b")
	h.unpin("b")
	h.p.Share(0)
	h.p.Share(1)
	h.take(1)
	h.start(0, m, "a", a, embed(1))
	h.b.Tick()
	h.check("a Tick")
	h.running()
	h.pages("r0", 0)
	h.p.Drop(0)
	h.p.Drop(1)
	h.walk(step{ready: []int{0}})
}

// 23.3: an adapter that is not there any more is held by nobody: room is made for its weights, too, ahead of Pin's error.
func TestTickGoneAdapterNeedsRoom(t *testing.T) {
	h, m, a := weighed(t, 4, 31)
	h.start(0, m, "a", a, embed(1))
	h.start(1, m, "", none, embed(4))
	h.take(1)
	h.remove("a")
	h.tick(1)
	h.give(1)
	h.tick(1)
	h.running(1)
	h.tick(1)
	h.pages("r1", 2)
	// With two pages left three are asked for: the younger one is put off in vain, and begins again.
	h.tick(1)
	h.pages("r1", 1)
}

// 23.4: an adapter's weights are those that were handed in, whatever lies on the shelf under its name.
func TestTickOwnAdapter(t *testing.T) {
	d := &dice{32}
	c := wide()
	h := open(t, 9)
	m, a, b := d.model(t, c), d.adapter(t, c, 1), d.adapter(t, c, 1)
	h.put("a", c, b)
	ask := embed(3)
	if same([]api.Reply{answer(t, 0, m, a, ask)}, []api.Reply{answer(t, 0, m, b, ask)}) || len(graft.Flat(a, c)) != 64 {
		t.Fatal("both adapters are the same")
	}
	h.start(0, m, "a", a, ask)
	h.tick(3)
	h.expect(0)
}

// 23.3: a stop ends an answer, and so does its length, and both at once.
func TestTickEnds(t *testing.T) {
	m := blank(t, narrow())
	for _, one := range []struct{ length, stop, tokens int }{{3, -1, 3}, {3, 1, 3}, {3, 0, 1}, {1, 0, 1}, {1, -1, 1}, {20, 0, 1}, {22, -1, 22}, {2, least, 2}} {
		for kind := 1; kind <= 3; kind++ {
			ask := api.Ask{Kind: kind, Prompt: ladder(2), Length: one.length, Stop: one.stop, TopK: 1, Beams: 1}
			h := open(t, 3)
			h.start(0, m, "", none, ask)
			h.tick(1 + one.tokens - 1)
			h.expect()
			h.tick(1)
			got := h.done()
			if len(got) != 1 || len(got[0].Tokens) != one.tokens {
				t.Errorf("%+v: %+v", ask, got)
			}
		}
	}
	h := open(t, 24)
	h.start(0, blank(t, wide()), "", none, embed(24))
	h.tick(23)
	h.expect()
	h.tick(1)
	h.expect(0)
}
