package fair

import (
	"slices"
	"testing"
)

// 21.2: an id at each place of each tenant's row is taken out; the others keep their order.
func TestCancelAtEachPlace(t *testing.T) {
	for tenant := range 4 {
		for count := 1; count <= 16; count++ {
			for place := range count {
				h := start(t, 1, 2, 16, 7)
				h.fill((tenant+3)%4, 1000, 3, 8)
				h.fill(tenant, 100, count, 5)
				h.fill((tenant+1)%4, 2000, 3, 9)
				if !h.cancel(100+place) || h.cancel(100+place) {
					t.Fatalf("%d of %d: not taken out, or twice", place, count)
				}
				if h.f.Waiting(tenant) != count-1 {
					t.Fatalf("%d of %d: Waiting %d", place, count, h.f.Waiting(tenant))
				}
				if slices.Contains(h.drain(), 100+place) {
					t.Fatalf("%d of %d came though it was cancelled", place, count)
				}
			}
		}
	}
}

// 21.2: what does not wait, was never there, or was taken out, is not there: false, and nothing changes.
func TestCancelOfNone(t *testing.T) {
	h := crowd(t)
	for _, id := range append(ends(), 0, 10, 20, 21, 22, 4, 30, 100) {
		if h.cancel(id) {
			t.Errorf("Cancel(%d): true", id)
		}
		h.probe()
	}
	for _, id := range []int{1, 2, 3, 11, 12, 13, 23} {
		if !h.cancel(id) || h.cancel(id) {
			t.Errorf("Cancel(%d)", id)
		}
		h.probe()
	}
	if _, is := h.next(); is {
		t.Errorf("something waits")
	}
}

// 21.2: ids of any kind.
func TestCancelOfAnyId(t *testing.T) {
	for tenant := range 2 {
		h := start(t, 3, 4)
		ids := append(ends()[:14], 0, 1)
		for _, id := range ids {
			h.all(call{'a', tenant, id, 2})
		}
		h.all(call{'a', 1 - tenant, 7, 2})
		h.cancel(2)
		for _, id := range slices.Backward(ids) {
			h.all(call{kind: 'c', id: id})
			h.cancel(id)
		}
		h.taken(7)
	}
}

// 21.2: no clock goes on, and no time, also where it was the turn of what was cancelled.
func TestCancelMovesNothing(t *testing.T) {
	for place := range 4 {
		h := crowd(t)
		h.all(call{'a', 3, 30, 500}, call{kind: 'n'})
		clocks := []int{h.f.Clock(0), h.f.Clock(1), h.f.Clock(2), h.f.Clock(3)}
		time := h.time
		for _, w := range slices.Clone(h.line) {
			if w.tenant == place {
				h.all(call{kind: 'c', id: w.id})
			}
		}
		for tenant, clock := range clocks {
			if h.f.Clock(tenant) != clock {
				t.Errorf("Clock(%d) was %d, is %d", tenant, clock, h.f.Clock(tenant))
			}
		}
		if h.time != time || h.f.Waiting(place) != 0 {
			t.Errorf("time %d, was %d; Waiting %d", h.time, time, h.f.Waiting(place))
		}
		h.probe()
		h.drain()
	}
}

// 21.2: one whose turn it would be is cancelled, and one begins: the time is that of the last turn that was.
func TestTimeBehindCancel(t *testing.T) {
	h := start(t, 1, 1)
	h.fill(0, 0, 3, 10)
	h.taken(0, 1)
	h.all(call{kind: 'c', id: 2}, call{'a', 1, 100, 10})
	if got := h.f.Clock(1); got != 7207200 {
		t.Errorf("the time is %d", got)
	}
	h.taken(100)
	h.all(call{'a', 0, 3, 1}, call{'a', 1, 101, 1})
	if h.f.Clock(0) != 14414400 || h.f.Clock(1) != 14414400 {
		t.Errorf("clocks %d and %d", h.f.Clock(0), h.f.Clock(1))
	}
	h.taken(3, 101)
}
