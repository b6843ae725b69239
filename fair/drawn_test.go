package fair

import (
	"testing"

	"aviary/api"
)

// dice draws numbers, the same ones each time for a state.
type dice struct {
	state uint64
}

// roll is a number from 0 to one less than the sides.
func (d *dice) roll(sides int) int {
	d.state += 0x9E3779B97F4A7C15
	z := d.state
	z = (z ^ z>>30) * 0xBF58476D1CE4E5B9
	z = (z ^ z>>27) * 0x94D049BB133111EB
	return int((z ^ z>>31) % uint64(sides))
}

// weights is one to four weights.
func (d *dice) weights() []int {
	weights := make([]int, 1+d.roll(4))
	for i := range weights {
		weights[i] = 1 + d.roll(16)
	}
	return weights
}

// cost is a right cost, most often one at an edge.
func (d *dice) cost() int {
	return []int{1, 2, 9999, 10000, 1 + d.roll(10000), 1 + d.roll(20)}[d.roll(6)]
}

// end is any number, most often far off.
func (d *dice) end() int {
	list := append(ends(), -1, 0, 1, 4, 5, 10000, 10001)
	return list[d.roll(len(list))]
}

// or is the number, or now and then one that is far off.
func (d *dice) or(number int) int {
	if d.roll(16) == 0 {
		return d.end()
	}
	return number
}

// mood is how many of 16 calls are Add and how many are Next (the others are Cancel), and of how many ids one is drawn.
type mood struct {
	adds, nexts, ids int
}

// moods is rows that run full, that run empty, that are in between, and in which much is cancelled.
func moods() []mood {
	return []mood{{12, 3, 400}, {6, 9, 60}, {7, 7, 30}, {8, 4, 40}, {8, 2, 12}, {8, 7, 5}}
}

// draw is a call that is drawn for a hall.
func draw(d *dice, h *hall, m mood) call {
	kind := d.roll(16)
	switch {
	case kind < m.adds:
		return call{'a', d.or(d.roll(len(h.weights))), d.or(d.roll(m.ids) - m.ids/4), d.or(d.cost())}
	case kind < m.adds+m.nexts:
		return call{kind: 'n'}
	}
	return call{kind: 'c', id: d.or(d.roll(m.ids) - m.ids/4)}
}

// tally counts what came of calls that were drawn.
type tally map[string]int

// state tells how a tenant's clock stands to the time, where nothing waits of it.
func (h *hall) state(tenant int) string {
	switch {
	case !h.has(tenant) || h.waiting(tenant) > 0:
		return "no idle one"
	case h.clocks[tenant] < h.time:
		return "less than the time"
	case h.clocks[tenant] == h.time:
		return "the time"
	}
	return "greater than the time"
}

// count does a call and counts it.
func (n tally) count(h *hall, c call) {
	h.t.Helper()
	state := h.state(c.tenant)
	switch c.kind {
	case 'a':
		e := h.add(c.tenant, c.id, c.cost)
		n[e.Error()]++
		if e == api.OK {
			n["clock "+state]++
		}
	case 'n':
		if _, is := h.next(); !is {
			n["nothing"]++
		}
	case 'c':
		if h.cancel(c.id) {
			n["cancelled"]++
		} else {
			n["not cancelled"]++
		}
	}
}

// 21.3: rows of calls that are drawn, held against the chapter's steps one behind the other.
func TestDrawn(t *testing.T) {
	seen := tally{}
	for seed := range uint64(600) {
		d := &dice{seed << 32}
		h := start(t, d.weights()...)
		m := moods()[seed%6]
		for step := range 150 {
			seen.count(h, draw(d, h, m))
			if step%30 == 29 {
				h.probe()
			}
		}
	}
	for _, what := range []string{"outcome 0", "outcome 20", "outcome 26", "outcome 5", "nothing", "cancelled", "not cancelled", "clock no idle one", "clock less than the time", "clock the time", "clock greater than the time"} {
		if seen[what] < 100 {
			t.Errorf("%s was met %d times", what, seen[what])
		}
	}
}

// 21.3: long rows, in which clocks go far.
func TestDrawnLong(t *testing.T) {
	for seed := range uint64(12) {
		d := &dice{seed<<32 + 1}
		h := start(t, d.weights()...)
		for step := range 8000 {
			// The moods change, so that rows run full and run empty.
			h.do(draw(d, h, moods()[(step/500+int(seed))%6]))
			h.calls = nil
		}
		h.drain()
	}
}

// 21.2: clocks are exact, however far they went.
func TestFarClocks(t *testing.T) {
	const turns = 1300000
	f, e := New([]int{1, 16})
	if e != api.OK {
		t.Fatalf("New: error %d", e)
	}
	for turn := range turns {
		e := f.Add(0, turn, 10000)
		if id, cost, is := f.Next(); e != api.OK || id != turn || cost != 10000 || !is {
			t.Fatalf("turn %d: error %d; %d of cost %d, %t", turn, e, id, cost, is)
		}
	}
	f.Add(0, 0, 1)
	f.Next()
	f.Add(1, 0, 1)
	if got, want := f.Clock(0), (turns*10000+1)*720720; got != want {
		t.Errorf("Clock %d, want %d", got, want)
	}
	if got, want := f.Clock(1), turns*10000*720720; got != want {
		t.Errorf("Clock of one who begins %d, want %d", got, want)
	}
}

// No call ends in a panic, whatever is handed in, and each is answered as the chapter says.
func TestAnything(t *testing.T) {
	list := append(ends(), 0, 1, 3, 4, 10000, 10001)
	for n := 1; n <= 4; n++ {
		h := start(t, all16()[12:12+n]...)
		for _, tenant := range list {
			for _, id := range list {
				for _, cost := range list {
					h.do(call{'a', tenant, id, cost})
				}
				h.do(call{kind: 'c', id: id})
				h.do(call{kind: 'c', id: tenant})
			}
			h.do(call{kind: 'n'})
		}
		h.probe()
	}
	for seed := range uint64(3000) {
		d := &dice{seed<<32 + 2}
		weights := make([]int, d.roll(7))
		right := len(weights) >= 1 && len(weights) <= 4
		for i := range weights {
			weights[i] = d.or(1 + d.roll(16))
			right = right && weights[i] >= 1 && weights[i] <= 16
		}
		f, e := New(weights)
		if right != (f != nil) || right != (e == api.OK) || !right && e != api.ErrRange {
			t.Errorf("New(%v): %v, error %d", weights, f, e)
		}
	}
}
