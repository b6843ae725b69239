package fair

import (
	"slices"
	"testing"

	"aviary/api"
)

// 21.2: where nothing waits, at first, behind all that waited, behind Cancel: nothing, and nothing changes.
func TestNextOfNothing(t *testing.T) {
	none := func(h *hall) {
		t.Helper()
		for range 3 {
			if id, cost, is := h.f.Next(); id != 0 || cost != 0 || is {
				t.Errorf("Next of nothing: %d, %d, %t", id, cost, is)
			}
			h.check("Next of nothing")
		}
		h.calls = append(h.calls, call{kind: 'n'})
		h.probe()
	}
	for n := 1; n <= 4; n++ {
		h := start(t, []int{2, 9, 1, 16}[:n]...)
		none(h)
		for tenant := range n {
			h.fill(tenant, 100*tenant, 3, 77)
		}
		h.drain()
		none(h)
		h.all(call{'a', n - 1, 5, 10}, call{kind: 'c', id: 5})
		none(h)
	}
}

// 21.2: one tenant alone: one behind the other, the clock goes on by each cost.
func TestOneAlone(t *testing.T) {
	for n := 1; n <= 4; n++ {
		for tenant := range n {
			weights := []int{2, 9, 1, 16}[:n]
			h := start(t, weights...)
			sum := 0
			for round := range 40 {
				h.all(call{'a', tenant, 2 * round, 3 + round}, call{'a', tenant, 2*round + 1, 10000 - round})
				h.taken(2*round, 2*round+1)
				sum += 10003
				if got := h.f.Clock(tenant); got != sum*ticks[weights[tenant]-1] {
					t.Fatalf("Clock %d behind a cost of %d in all at the weight %d", got, sum, weights[tenant])
				}
			}
			h.probe()
		}
	}
}

// 21.2: of clocks that are the same the first tenant's goes ahead, in whatever order they came.
func TestSameClocks(t *testing.T) {
	for _, order := range [][]int{{0, 1, 2, 3}, {3, 2, 1, 0}, {2, 0, 3, 1}, {1, 3, 0, 2}} {
		h := start(t, 4, 4, 4, 4)
		for round := range 3 {
			for _, tenant := range order {
				h.all(call{'a', tenant, 10*tenant + round, 20})
			}
		}
		h.taken(0, 10, 20, 30, 1, 11, 21, 31, 2, 12, 22, 32)
	}
	// The first of those of whom something waits.
	h := start(t, 4, 4, 4, 4)
	h.all(call{'a', 3, 30, 1}, call{'a', 2, 20, 1})
	h.taken(20, 30)
	// Clocks that are the same behind costs and weights that are not.
	h = start(t, 16, 1)
	h.fill(1, 100, 2, 5)
	h.fill(0, 0, 6, 16)
	h.taken(0, 100, 1, 2, 3, 4, 5, 101)
}

// 21.2: the least clock comes first, wherever it stands.
func TestLeastClock(t *testing.T) {
	for place := range 4 {
		h := start(t, 1, 1, 1, 1)
		for tenant := range 4 {
			cost := 20
			if tenant == place {
				cost = 19
			}
			h.all(call{'a', tenant, tenant, cost}, call{'a', tenant, 10 + tenant, 1})
		}
		h.taken(0, 1, 2, 3, 10+place)
		h.drain()
	}
}

// 21.2: each cost at each weight brings a clock on by its tick, with no rest.
func TestTick(t *testing.T) {
	for i, weight := range all16() {
		f, e := New([]int{3, weight})
		if e != api.OK {
			t.Fatalf("New: error %d", e)
		}
		clock := 0
		for cost := 1; cost <= 10000; cost++ {
			if e := f.Add(1, cost, cost); e != api.OK {
				t.Fatalf("Add of the cost %d: error %d", cost, e)
			}
			id, got, is := f.Next()
			clock += cost * ticks[i]
			if id != cost || got != cost || !is || f.Clock(1) != clock || f.Clock(0) != 0 {
				t.Fatalf("weight %d: %d of cost %d, %t, Clock %d; want the cost %d, %d", weight, id, got, is, f.Clock(1), cost, clock)
			}
		}
		// The costs from 1 to 10000 are 50005000 together.
		if clock*weight != 50005000*720720 {
			t.Errorf("weight %d: %d", weight, clock)
		}
	}
}

// 21.2: the time is the clock of the one whose turn it was, ahead of its cost, as one sees it who begins.
func TestTimeBehindNext(t *testing.T) {
	for _, weight := range all16() {
		for _, cost := range []int{1, 9999, 10000} {
			h := start(t, weight, 5)
			h.fill(0, 0, 16, cost)
			for i := range 16 {
				h.taken(i)
				g := h.again()
				g.all(call{'a', 1, 100, 1})
				if got := g.f.Clock(1); got != i*tickOf(cost, weight) {
					t.Errorf("weight %d, cost %d: the time %d behind %d", weight, cost, got, i)
				}
			}
			// The last one's cost is no time yet, as nobody's turn was at it.
			h.all(call{'a', 1, 100, 1})
			if got := h.f.Clock(1); got != 15*tickOf(cost, weight) {
				t.Errorf("weight %d, cost %d: the time %d in the end", weight, cost, got)
			}
		}
	}
}

// 21.2: the time is that of the last turn, with several tenants in turns, and one who never had one looks on.
func TestTimeOfSeveral(t *testing.T) {
	h := start(t, 1, 2, 16, 7)
	for tenant := range 3 {
		h.fill(tenant, 100*tenant, 16, 11+tenant)
	}
	for len(h.line) > 0 {
		h.next()
		g := h.again()
		g.all(call{'a', 3, 1000, 1})
		if g.f.Clock(3) != h.time {
			t.Fatalf("the time is %d, want %d", g.f.Clock(3), h.time)
		}
		g.drain()
	}
}

// Example 1 of the chapter; with the clocks behind each turn.
func TestExample(t *testing.T) {
	h := start(t, 1, 2)
	for i := range 3 {
		h.all(call{'a', 0, i, 10}, call{'a', 1, 100 + i, 10})
	}
	h.taken(0, 100, 101, 1, 102, 2)
	if got := []int{h.f.Clock(0), h.f.Clock(1)}; !slices.Equal(got, []int{21621600, 10810800}) {
		t.Errorf("clocks %v", got)
	}
	if _, is := h.next(); is {
		t.Errorf("more than six")
	}
}
