package fair

import (
	"slices"
	"testing"

	"aviary/api"
)

// desk is a Fair of whose tenants something always waits, with what was served of each.
type desk struct {
	t        *testing.T
	f        *Fair
	weights  []int
	served   []int
	turns    []int
	greatest int
	id       int
	holder   map[int]int
	cost     func(tenant, id int) int
}

// open is a desk at which so much of each tenant waits.
func open(t *testing.T, weights []int, waiting int, cost func(tenant, id int) int) *desk {
	t.Helper()
	f, e := New(weights)
	if e != api.OK {
		t.Fatalf("New(%v): error %d", weights, e)
	}
	d := &desk{t: t, f: f, weights: weights, served: make([]int, len(weights)), turns: make([]int, len(weights)), holder: map[int]int{}, cost: cost}
	for tenant := range weights {
		for range waiting {
			d.refill(tenant)
		}
	}
	return d
}

// refill lays in one thing more of a tenant, and says its id.
func (d *desk) refill(tenant int) int {
	d.t.Helper()
	d.id++
	if e := d.f.Add(tenant, d.id, d.cost(tenant, d.id)); e != api.OK {
		d.t.Fatalf("%v: Add(%d, %d, %d): error %d", d.weights, tenant, d.id, d.cost(tenant, d.id), e)
	}
	d.holder[d.id] = tenant
	return d.id
}

// turn does Next, counts what was served, and says the tenant and the id.
func (d *desk) turn() (int, int) {
	d.t.Helper()
	id, cost, is := d.f.Next()
	tenant, there := d.holder[id]
	if !is || !there || cost != d.cost(tenant, id) {
		d.t.Fatalf("%v: Next %d of cost %d, %t", d.weights, id, cost, is)
	}
	delete(d.holder, id)
	d.served[tenant] += cost
	d.turns[tenant]++
	d.greatest = max(d.greatest, cost)
	return tenant, id
}

// checkWeights holds what was served of any two against their weights: no difference is greater than the greatest cost divided by the lesser weight, twice over.
func (d *desk) checkWeights() {
	d.t.Helper()
	for i, w := range d.weights {
		for j, v := range d.weights {
			apart := d.served[i]*v - d.served[j]*w
			if apart*min(w, v) > 2*d.greatest*w*v {
				d.t.Fatalf("%v: served %v, greatest cost %d: %d and %d are too far apart", d.weights, d.served, d.greatest, i, j)
			}
		}
	}
}

// costs is kinds of loads: the same at both edges, one edge against the other, edges in turns, and drawn ones.
func costs() []func(tenant, id int) int {
	edge := func(odd int) int {
		if odd%2 == 1 {
			return 10000
		}
		return 1
	}
	return []func(tenant, id int) int{
		func(tenant, id int) int { return 1 },
		func(tenant, id int) int { return 10000 },
		func(tenant, id int) int { return edge(tenant) },
		func(tenant, id int) int { return edge(tenant + 1) },
		func(tenant, id int) int { return edge(id) },
		func(tenant, id int) int { return edge(id / 40) },
		func(tenant, id int) int { return (&dice{uint64(id)}).cost() },
		func(tenant, id int) int { return 1 + (&dice{uint64(id)}).roll(10000) },
	}
}

// 21.3: any two weights, with all kinds of loads.
func TestByWeight(t *testing.T) {
	for _, w := range all16() {
		for _, v := range all16() {
			for _, cost := range costs() {
				d := open(t, []int{w, v}, 2, cost)
				for range 600 {
					tenant, _ := d.turn()
					d.refill(tenant)
					d.checkWeights()
				}
			}
		}
	}
}

// 21.3: of three and four tenants any two; what waits is cancelled now and then.
func TestByWeightOfMore(t *testing.T) {
	for seed := range uint64(150) {
		rolls := &dice{seed<<32 + 3}
		weights := []int{1 + rolls.roll(16), 1 + rolls.roll(16), 1 + rolls.roll(16), 1 + rolls.roll(16)}[:3+seed%2]
		d := open(t, weights, 4, costs()[seed%8])
		for range 1500 {
			tenant, _ := d.turn()
			d.refill(tenant)
			d.checkWeights()
			if rolls.roll(5) == 0 {
				// One comes ahead of the one that goes, so that something waits at all times.
				one := rolls.roll(len(weights))
				d.refill(one)
				d.cancelOne(rolls, one)
			}
		}
	}
}

// cancelOne cancels something that waits of a tenant.
func (d *desk) cancelOne(rolls *dice, tenant int) {
	d.t.Helper()
	var ids []int
	for id, holder := range d.holder {
		if holder == tenant {
			ids = append(ids, id)
		}
	}
	slices.Sort(ids)
	id := ids[rolls.roll(len(ids))]
	if !d.f.Cancel(id) {
		d.t.Fatalf("Cancel(%d): false", id)
	}
	delete(d.holder, id)
}

// 21.3: what costs the same goes in rounds: as many turns of each tenant as its weight.
func TestRounds(t *testing.T) {
	for _, w := range all16() {
		for _, v := range all16() {
			for _, cost := range []int{1, 77, 10000} {
				d := open(t, []int{w, v}, 1, func(tenant, id int) int { return cost })
				for round := 1; round <= 5; round++ {
					for range w + v {
						tenant, _ := d.turn()
						d.refill(tenant)
					}
					if d.turns[0] != round*w || d.turns[1] != round*v {
						t.Fatalf("weights %d and %d: turns %v in %d rounds", w, v, d.turns, round)
					}
				}
			}
		}
	}
}

// stretch is how far what was served of two tenants went apart, multiplied by both weights, since something of both waits.
type stretch struct {
	waits       bool
	apart       int
	least, most int
}

// note goes on with a stretch by one call more; if it is broken, another one begins.
func (s *stretch) note(waits bool, apart int) {
	if !waits || !s.waits {
		*s = stretch{waits: waits}
		return
	}
	s.apart += apart
	s.least, s.most = min(s.least, s.apart), max(s.most, s.apart)
}

// 21.3: while something waits of two tenants, whatever was ahead of it, and whoever comes and goes beside them.
func TestStretches(t *testing.T) {
	long := 0
	for seed := range uint64(500) {
		d := &dice{seed<<32 + 4}
		h := start(t, []int{1 + d.roll(16), 1 + d.roll(16), 1 + d.roll(16), 1 + d.roll(16)}[:2+seed%3]...)
		n := len(h.weights)
		stretches := make([]stretch, n*n)
		greatest := 0
		for range 200 {
			served := make([]int, n)
			c := draw(d, h, moods()[seed%6])
			if c.kind == 'n' && len(h.line) > 0 {
				g := &hall{weights: h.weights, clocks: slices.Clone(h.clocks), line: slices.Clone(h.line)}
				id, cost, _ := g.wantNext()
				served[h.line[h.place(id)].tenant] = cost
				greatest = max(greatest, cost)
			}
			h.do(c)
			for i, w := range h.weights {
				for j, v := range h.weights[:i] {
					s := &stretches[n*i+j]
					s.note(h.waiting(i) > 0 && h.waiting(j) > 0, served[i]*v-served[j]*w)
					if (s.most-s.least)*min(w, v) > 2*greatest*w*v {
						t.Fatalf("%v: what was served of %d and %d is too far apart", h.weights, i, j)
					}
					if s.most > s.least {
						long++
					}
				}
			}
		}
	}
	if long < 10000 {
		t.Errorf("in all stretches something was served %d times", long)
	}
}

// 21.3: one who was idle does not catch up: it takes its turns from now on, and no more than these.
func TestNoCatchingUp(t *testing.T) {
	for _, w := range all16() {
		for _, v := range all16() {
			for idle := range 2 {
				weights := []int{w, v}
				other := 1 - idle
				d := open(t, weights, 0, func(tenant, id int) int { return 100 })
				d.refill(other)
				for range 1000 {
					d.refill(other)
					d.turn()
				}
				d.served = []int{0, 0}
				d.refill(idle)
				d.refill(idle)
				for range 300 {
					tenant, _ := d.turn()
					d.refill(tenant)
					d.checkWeights()
				}
			}
		}
	}
}

// 21.3: one who was idle, of equals: in turns from now on, and the first of them ahead where they stand at one clock.
func TestInTurnsBehindIdle(t *testing.T) {
	h := start(t, 1, 1)
	h.fill(0, 0, 16, 10)
	h.taken(0, 1, 2, 3, 4, 5, 6, 7)
	h.fill(1, 100, 8, 10)
	h.taken(100, 8, 101, 9, 102, 10, 103, 11, 104, 12, 105, 13, 106, 14, 107, 15)
	h = start(t, 1, 1)
	h.fill(1, 0, 16, 10)
	h.taken(0, 1, 2, 3, 4, 5, 6, 7)
	h.fill(0, 100, 8, 10)
	h.taken(100, 101, 8, 102, 9, 103, 10, 104, 11, 105, 12, 106, 13, 107, 14, 15)
}

// 21.3: nor does anybody gain by having nothing left behind each turn, and coming again: what it was served counts on.
func TestNoGainByIdling(t *testing.T) {
	for idler := range 2 {
		h := start(t, 1, 1)
		h.fill(1-idler, 100, 16, 10)
		for i := range 16 {
			h.all(call{'a', idler, 50, 10}, call{kind: 'c', id: 50}, call{'a', idler, i, 10})
			turns := [][]int{{i, 100 + i}, {100 + i, i}}[idler]
			h.taken(turns...)
		}
	}
}

// 21.3: what waits longest at the least weight, behind the greatest cost, of rivals with the greatest weight and the least cost, is served at last, and no later than its clock says.
func TestAtLast(t *testing.T) {
	for place := range 4 {
		weights := []int{16, 16, 16, 16}
		weights[place] = 1
		d := open(t, weights, 0, func(tenant, id int) int {
			if tenant == place {
				return 10000
			}
			return 1
		})
		d.refill(place)
		d.turn()
		slow := d.refill(place)
		for tenant := range 4 {
			if tenant != place {
				d.refill(tenant)
			}
		}
		// Each rival has 160000 turns up to that clock, and those that stand ahead of it one at it, too.
		turns, want := 0, 3*160000+place
		for turns <= want {
			tenant, id := d.turn()
			if id == slow {
				break
			}
			d.refill(tenant)
			turns++
		}
		if turns != want {
			t.Errorf("at %d: %d turns of others, want %d", place, turns, want)
		}
	}
}

// 21.3: all that was ever laid in comes out, but what is cancelled, however full the others' rows are; of a tenant what waits longest comes first.
func TestNothingWaitsForEver(t *testing.T) {
	for seed := range uint64(60) {
		rolls := &dice{seed<<32 + 5}
		weights := []int{1 + rolls.roll(16), 1 + rolls.roll(16), 1 + rolls.roll(16), 1 + rolls.roll(16)}
		load := costs()[6+seed%2]
		d := open(t, weights, 16, func(tenant, id int) int { return 500 + load(tenant, id)/2 })
		last := make([]int, 4)
		waited := map[int]int{}
		for turn := range 4000 {
			tenant, id := d.turn()
			if id <= last[tenant] {
				t.Fatalf("%v: %d comes behind %d", weights, id, last[tenant])
			}
			last[tenant] = id
			// Ahead of each of up to 16 a rival of the greatest weight has at most 16 times 5500 divided by 500 turns, and one.
			if since := turn - waited[id]; since > 16*3*(16*11+1)+16 {
				t.Fatalf("%v: %d waited for %d turns", weights, id, since)
			}
			delete(waited, id)
			waited[d.refill(tenant)] = turn
		}
		for id, since := range waited {
			if 4000-since > 16*3*(16*11+1)+16 {
				t.Fatalf("%v: %d waits since the turn %d", weights, id, since)
			}
		}
	}
}

// 21.3: of a tenant what waits longest comes first, whatever its cost and its id are, and whatever comes and goes beside it.
func TestLongestFirst(t *testing.T) {
	for seed := range uint64(200) {
		d := &dice{seed<<32 + 6}
		h := start(t, d.weights()...)
		arrived := map[int]int{}
		for step := range 200 {
			c := draw(d, h, moods()[seed%6])
			line := slices.Clone(h.line)
			switch done := h.do(c); {
			case c.kind == 'a' && done:
				arrived[c.id] = step
			case c.kind == 'n' && done:
				out := slices.IndexFunc(line, func(w waiter) bool { return h.place(w.id) < 0 })
				for _, w := range line {
					if w.tenant == line[out].tenant && arrived[w.id] < arrived[line[out].id] {
						t.Fatalf("%v: %d came ahead of %d", h.weights, line[out].id, w.id)
					}
				}
			}
		}
	}
}
