package batch

import (
	"testing"

	"aviary/api"
	"aviary/beam"
)

// two is a configuration with two tokens alone.
func two(c api.Config) api.Config {
	c.Vocab = 2
	return c
}

// 23.3: forks share their pages till a row goes into one of them: room is made for both, though one copy is all that it takes.
func TestBeamForksShare(t *testing.T) {
	h := open(t, 3)
	h.start(0, blank(t, two(narrow())), "", none, beams(3, 3, 2, -1))
	h.walk(
		step{runs: []int{0}, pages: []int{1}},
		step{runs: []int{0}, pages: []int{1}},
		step{runs: []int{0}, pages: []int{1}},
	)
	if h.p.Owners(0) != 2 {
		t.Errorf("page 0 has %d owners", h.p.Owners(0))
	}
	h.take(1)
	// One page at hand, and two that both may need.
	h.walk(step{runs: []int{0}, pages: []int{1}}, step{runs: []int{0}, pages: []int{1}})
	h.give(1)
	// Both new tries stand behind the first one, as all scores are the same.
	h.walk(step{runs: []int{0}, pages: []int{1}}, step{ready: []int{0}, pages: []int{0}})
}

// 23.3: forks behind different tries: each keeps what it stands behind, and the pages of no fork are free.
func TestBeamForksOfBoth(t *testing.T) {
	h := open(t, 8)
	h.start(0, blank(t, two(wide())), "", none, beams(2, 3, 2, -1))
	h.walk(
		step{runs: []int{0}, pages: []int{1}},
		step{runs: []int{0}, pages: []int{2}},
		// Four pages, of which the second try's last one is let go of.
		step{runs: []int{0}, pages: []int{3}},
		step{ready: []int{0}, pages: []int{0}},
	)
	h = open(t, 12)
	h.start(0, blank(t, two(wide())), "", none, beams(2, 3, 4, -1))
	h.walk(
		step{runs: []int{0}, pages: []int{1}},
		step{runs: []int{0}, pages: []int{2}},
		// Two tries of three rows each, of which two are shared, and two forks of each.
		step{runs: []int{0}, pages: []int{4}},
		step{ready: []int{0}, pages: []int{0}},
	)
}

// 23.3: tries that are done at different times: those that are have no rows, and need none when the job is begun again.
func TestBeamDoneByTurns(t *testing.T) {
	m := blank(t, two(wide()))
	h := open(t, 4)
	h.start(0, m, "", none, greedy(1, 3))
	h.start(1, m, "", none, beams(1, 3, 4, 1))
	h.walk(
		step{runs: []int{0, 1}, pages: []int{1, 1}},
		step{runs: []int{0, 1}, pages: []int{2, 2}},
	)
	if tries := h.b.jobs[1].tries; len(tries) != 3 || tries[0].Done || !tries[1].Done || !tries[2].Done {
		t.Errorf("tries %+v", tries)
	}
	h.walk(
		step{runs: []int{1}, ready: []int{0}, pages: []int{0, 1}},
		step{runs: []int{1}, pages: []int{0, 2}},
		step{ready: []int{1}, pages: []int{0, 0}},
	)
}

// 23.3: begun again, nothing is shared any more: room is made for each try by itself.
func TestBeamAgain(t *testing.T) {
	for _, last := range []int{0, 1} {
		m := blank(t, two(wide()))
		h := open(t, 6)
		h.start(0, m, "", none, greedy(1, 6))
		h.start(1, m, "", none, beams(2, 3, 2, -1))
		h.walk(
			step{runs: []int{0, 1}, pages: []int{1, 1}},
			step{runs: []int{0, 1}, pages: []int{2, 2}},
		)
		h.take(2)
		h.walk(step{runs: []int{0}, pages: []int{3, 0}})
		h.give(2)
		h.walk(
			step{runs: []int{0}, pages: []int{4, 0}},
			step{runs: []int{0}, pages: []int{5, 0}},
		)
		if last == 1 {
			h.cancel(0)
			h.take(1)
			h.walk(step{pages: []int{0, 0}}, step{pages: []int{0, 0}})
			continue
		}
		h.walk(
			step{runs: []int{1}, ready: []int{0}, pages: []int{0, 2}},
			step{runs: []int{1}, pages: []int{0, 4}},
			step{runs: []int{1}, pages: []int{0, 3}},
			step{ready: []int{1}},
		)
	}
}

// 23.3: a width of 1, a stop that ends the only try at once, and tries that all are done at once.
func TestBeamEnds(t *testing.T) {
	m := blank(t, two(narrow()))
	for _, one := range []struct{ length, width, stop, ticks int }{
		{3, 1, -1, 4}, {3, 1, 0, 2}, {3, 1, 1, 4}, {1, 4, -1, 2}, {1, 4, 0, 2}, {2, 4, 0, 3}, {22, 2, -1, 23}, {4, 3, 1, 5},
	} {
		h := open(t, 20)
		h.start(0, m, "", none, beams(2, one.length, one.width, one.stop))
		h.tick(one.ticks - 1)
		h.expect()
		h.tick(1)
		h.expect(0)
	}
}

// 23.3: the tries' rows are those of their own tokens: many models, with all widths, windows and penalties.
func TestBeamModels(t *testing.T) {
	apart := 0
	for seed := range uint64(150) {
		d := &dice{seed<<20 + 5}
		c := d.config()
		m := d.model(t, c)
		a := d.ask(c.Vocab)
		a.Kind, a.Beams = api.Beam, 2+d.roll(3)
		h := open(t, 256)
		h.start(0, m, "", none, a)
		for range 24 {
			h.tick(1)
			if len(h.b.jobs) == 0 {
				break
			}
			tries := h.b.jobs[0].tries
			if tries[0].Done != tries[len(tries)-1].Done {
				apart++
			}
		}
		h.expect(0)
	}
	if apart < 20 {
		t.Errorf("%d Ticks with tries of which some are done", apart)
	}
}

// 23.3: several tries through each window, with an adapter, that nobody holds behind them.
func TestBeamWindowAdapter(t *testing.T) {
	for window := range 17 {
		d := &dice{uint64(window) + 900}
		c := windowed(narrow(), window)
		m, a := d.model(t, c), d.adapter(t, c, 2)
		h := open(t, 40)
		h.put("a", c, a)
		h.start(0, m, "a", a, beams(9, 12, 4, -1))
		h.tick(20)
		h.expect(0)
		if h.s.Pins("a") != 0 {
			t.Errorf("a is held %d times", h.s.Pins("a"))
		}
	}
}

// 23.3: the best try's tokens are the answer, by its length's penalty; since the best token of a row loses nothing, the first try of a job is always the best one, so that this is asked of tries that no job has.
func TestBeamBest(t *testing.T) {
	one := func(score int64, tokens ...int) try {
		return try{Beam: beam.Beam{Tokens: tokens, Score: score, Done: true}}
	}
	for _, c := range []struct {
		penalty int
		want    []int
	}{{0, []int{2}}, {16, []int{3, 3, 3}}, {64, []int{3, 3, 3}}} {
		j := &job{id: 4, ask: api.Ask{Kind: api.Beam, Penalty: c.penalty}, tries: []try{one(-70000, 1), one(-40000, 2), one(-60000, 3, 3, 3), one(-65000, 4, 4, 4)}}
		if got := []api.Reply{j.reply()}; !same(got, []api.Reply{{Id: 4, Tokens: c.want}}) {
			t.Errorf("penalty %d: %+v; want %v", c.penalty, got, c.want)
		}
	}
}
