package fair

import (
	"math"
	"slices"
	"testing"

	"aviary/api"
)

const (
	least = math.MinInt
	most  = math.MaxInt
)

// ticks is how far a clock goes on by a cost of 1, at each weight from 1 to 16.
var ticks = [16]int{720720, 360360, 240240, 180180, 144144, 120120, 102960, 90090, 80080, 72072, 65520, 60060, 55440, 51480, 48048, 45045}

// tickOf is how far a cost brings the clock of a tenant of a weight.
func tickOf(cost, weight int) int {
	return cost * ticks[weight-1]
}

// ends is numbers at the ends of 64 bits, and of fewer, where a number that is cut short would be a small one.
func ends() []int {
	return []int{least, least + 1, -1 << 32, -1<<32 + 1, -1 << 31, -1 << 16, -256, -255, -16, -1, 1 << 16, 1<<16 + 1, 1 << 31, 1 << 32, 1<<32 + 1, 1<<32 + 2, 1 << 62, most - 1, most}
}

// waiter is something that waits, as it must.
type waiter struct {
	tenant, id, cost int
}

// call is a call of Add, of Next or of Cancel, by its first letter, with what is handed to it.
type call struct {
	kind             byte
	tenant, id, cost int
}

// hall is a Fair beside what it must be; in the line all that waits stands together, as it came in.
type hall struct {
	t       *testing.T
	f       *Fair
	weights []int
	clocks  []int
	time    int
	line    []waiter
	calls   []call
}

// start is a hall with a new Fair.
func start(t *testing.T, weights ...int) *hall {
	t.Helper()
	f, e := New(slices.Clone(weights))
	if f == nil || e != api.OK {
		t.Fatalf("New(%v): error %d", weights, e)
	}
	h := &hall{t: t, f: f, weights: weights, clocks: make([]int, len(weights))}
	h.check("New")
	return h
}

// waiting is how much waits of a tenant.
func (h *hall) waiting(tenant int) int {
	n := 0
	for _, w := range h.line {
		if w.tenant == tenant {
			n++
		}
	}
	return n
}

// has tells whether there is such a tenant.
func (h *hall) has(tenant int) bool {
	return tenant >= 0 && tenant < len(h.weights)
}

// place is where something with that id stands in the line.
func (h *hall) place(id int) int {
	return slices.IndexFunc(h.line, func(w waiter) bool { return w.id == id })
}

// wantAdd is what Add must answer, and makes of the hall what it must be then; the other ones do the same of their calls.
func (h *hall) wantAdd(tenant, id, cost int) api.Errno {
	switch {
	case !h.has(tenant), cost <= 0, cost >= 10001:
		return api.ErrRange
	case h.place(id) >= 0:
		return api.ErrTwice
	case h.waiting(tenant) == 16:
		return api.QueueFull
	}
	if h.waiting(tenant) == 0 && h.clocks[tenant] < h.time {
		h.clocks[tenant] = h.time
	}
	h.line = append(h.line, waiter{tenant, id, cost})
	return api.OK
}

func (h *hall) wantNext() (int, int, bool) {
	if len(h.line) == 0 {
		return 0, 0, false
	}
	at := 0
	for i, w := range h.line {
		clock, before := h.clocks[w.tenant], h.line[at].tenant
		if clock < h.clocks[before] || clock == h.clocks[before] && w.tenant < before {
			at = i
		}
	}
	w := h.line[at]
	h.line = slices.Delete(h.line, at, at+1)
	h.time = h.clocks[w.tenant]
	h.clocks[w.tenant] += tickOf(w.cost, h.weights[w.tenant])
	return w.id, w.cost, true
}

func (h *hall) wantCancel(id int) bool {
	at := h.place(id)
	if at < 0 {
		return false
	}
	h.line = slices.Delete(h.line, at, at+1)
	return true
}

// check holds what is to be seen of each tenant, and of some that there are not, against what must be.
func (h *hall) check(behind string) {
	h.t.Helper()
	for tenant, clock := range h.clocks {
		if got, want := h.f.Waiting(tenant), h.waiting(tenant); got != want {
			h.t.Fatalf("%v, behind %s: Waiting(%d) %d, want %d", h.weights, behind, tenant, got, want)
		}
		if got := h.f.Clock(tenant); got != clock {
			h.t.Fatalf("%v, behind %s: Clock(%d) %d, want %d", h.weights, behind, tenant, got, clock)
		}
	}
	for _, tenant := range []int{least, -1, len(h.weights), len(h.weights) + 1, most} {
		if h.f.Waiting(tenant) != 0 || h.f.Clock(tenant) != 0 {
			h.t.Fatalf("%v, behind %s: Waiting(%d) %d, Clock %d", h.weights, behind, tenant, h.f.Waiting(tenant), h.f.Clock(tenant))
		}
	}
}

func (h *hall) add(tenant, id, cost int) api.Errno {
	h.t.Helper()
	h.calls = append(h.calls, call{'a', tenant, id, cost})
	want := h.wantAdd(tenant, id, cost)
	if got := h.f.Add(tenant, id, cost); got != want {
		h.t.Fatalf("%v: Add(%d, %d, %d): error %d, want error %d", h.weights, tenant, id, cost, got, want)
	}
	h.check("Add")
	return want
}

// next does Next, and says the id, and whether there was one.
func (h *hall) next() (int, bool) {
	h.t.Helper()
	h.calls = append(h.calls, call{kind: 'n'})
	id, cost, is := h.wantNext()
	if gid, gcost, gis := h.f.Next(); gid != id || gcost != cost || gis != is {
		h.t.Fatalf("%v: Next %d, %d, %t; want %d, %d, %t", h.weights, gid, gcost, gis, id, cost, is)
	}
	h.check("Next")
	return id, is
}

func (h *hall) cancel(id int) bool {
	h.t.Helper()
	h.calls = append(h.calls, call{kind: 'c', id: id})
	want := h.wantCancel(id)
	if got := h.f.Cancel(id); got != want {
		h.t.Fatalf("%v: Cancel(%d) %t, want %t", h.weights, id, got, want)
	}
	h.check("Cancel")
	return want
}

// again is a hall with a Fair of its own, for which all calls were done again.
func (h *hall) again() *hall {
	h.t.Helper()
	f, e := New(h.weights)
	if e != api.OK {
		h.t.Fatalf("New(%v) again: error %d", h.weights, e)
	}
	for _, c := range h.calls {
		switch c.kind {
		case 'a':
			f.Add(c.tenant, c.id, c.cost)
		case 'n':
			f.Next()
		case 'c':
			f.Cancel(c.id)
		}
	}
	return &hall{t: h.t, f: f, weights: h.weights, clocks: slices.Clone(h.clocks), time: h.time, line: slices.Clone(h.line), calls: slices.Clone(h.calls)}
}

// drain takes out all that waits, and says the ids.
func (h *hall) drain() []int {
	h.t.Helper()
	var ids []int
	for {
		id, is := h.next()
		if !is {
			return ids
		}
		ids = append(ids, id)
	}
}

// strange is an id with which nothing waits.
func (h *hall) strange() int {
	id := 1 << 40
	for h.place(id) >= 0 {
		id++
	}
	return id
}

// probe looks at what a call does not tell: what waits, in its order, and the time, by tenants that begin again.
func (h *hall) probe() {
	h.t.Helper()
	h.again().drain()
	for tenant := range h.weights {
		if h.waiting(tenant) == 0 {
			g := h.again()
			g.all(call{'a', tenant, g.strange(), 1})
			g.drain()
		}
	}
}

// do does one call, and tells whether it was answered OK or true.
func (h *hall) do(c call) bool {
	h.t.Helper()
	switch c.kind {
	case 'a':
		return h.add(c.tenant, c.id, c.cost) == api.OK
	case 'n':
		_, is := h.next()
		return is
	}
	return h.cancel(c.id)
}

// all does calls, all of which must be answered OK or true.
func (h *hall) all(calls ...call) {
	h.t.Helper()
	for _, c := range calls {
		if !h.do(c) {
			h.t.Fatalf("%v: %c %d %d %d was refused", h.weights, c.kind, c.tenant, c.id, c.cost)
		}
	}
}

// refused does an Add, that must answer this error and change nothing.
func (h *hall) refused(tenant, id, cost int, e api.Errno) {
	h.t.Helper()
	line, clocks, time := slices.Clone(h.line), slices.Clone(h.clocks), h.time
	if got := h.add(tenant, id, cost); got != e {
		h.t.Fatalf("%v: Add(%d, %d, %d): error %d, want error %d", h.weights, tenant, id, cost, got, e)
	}
	if !slices.Equal(line, h.line) || !slices.Equal(clocks, h.clocks) || time != h.time {
		h.t.Fatalf("%v: a refused Add(%d, %d, %d) changes what must be", h.weights, tenant, id, cost)
	}
	h.probe()
}

// fill lays in so much of a tenant, with ids that go on from one, all of one cost.
func (h *hall) fill(tenant, from, count, cost int) {
	h.t.Helper()
	for i := range count {
		h.all(call{'a', tenant, from + i, cost})
	}
}

// taken does Next for each of these ids.
func (h *hall) taken(ids ...int) {
	h.t.Helper()
	for i, want := range ids {
		if got, is := h.next(); got != want || !is {
			h.t.Fatalf("%v: Next number %d took %d out, want %d of %v", h.weights, i, got, want, ids)
		}
	}
}
