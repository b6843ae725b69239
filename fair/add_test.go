package fair

import (
	"slices"
	"testing"

	"aviary/api"
)

// crowd is three tenants of whom something waits behind a while, at clocks that differ, and a fourth one, of whom nothing ever waited.
func crowd(t *testing.T) *hall {
	t.Helper()
	h := start(t, 1, 2, 16, 7)
	for tenant := range 3 {
		h.fill(tenant, 10*tenant, 4, 50+tenant)
	}
	h.taken(0, 10, 20, 21, 22)
	return h
}

// 21.1: each tenant that there is, and numbers on both sides of them.
func TestWhichTenant(t *testing.T) {
	for n := 1; n <= 4; n++ {
		h := start(t, all16()[:n]...)
		for tenant := range n {
			h.all(call{'a', tenant, tenant, 1})
		}
		for _, tenant := range append(ends(), n, n+1, 4, 5) {
			h.refused(tenant, 100, 1, api.ErrRange)
			if h.f.Waiting(tenant) != 0 || h.f.Clock(tenant) != 0 {
				t.Errorf("%d: Waiting %d, Clock %d", tenant, h.f.Waiting(tenant), h.f.Clock(tenant))
			}
		}
		if h.drain()[n-1] != n-1 {
			t.Errorf("of %d tenants: %v", n, h.line)
		}
	}
}

// 21.1: costs at the edges.
func TestWhichCost(t *testing.T) {
	for tenant := range 4 {
		h := crowd(t)
		for i, cost := range []int{1, 2, 255, 256, 9999, 10000} {
			h.all(call{'a', tenant, 100 + i, cost})
		}
		for _, cost := range append(ends(), 0, 10001, 10002, 1<<32+10000) {
			h.refused(tenant, 200, cost, api.ErrRange)
		}
		h.drain()
	}
}

// 21.1: what waits is not laid in once more, of whomever; ids are any numbers.
func TestTwice(t *testing.T) {
	ids := append(ends(), 0, 1, 2, 3)
	for holder := range 4 {
		h := start(t, 1, 2, 16, 7)
		for i, id := range ids[:16] {
			h.all(call{'a', holder, id, 1 + i})
		}
		for _, id := range ids[:16] {
			for tenant := range 4 {
				h.refused(tenant, id, 5, api.ErrTwice)
			}
		}
		// Those that are left wait of nobody.
		for _, id := range ids[16:] {
			h.all(call{'a', (holder + 1) % 4, id, 2})
			h.refused(holder, id, 2, api.ErrTwice)
		}
		got := h.drain()
		slices.Sort(got)
		slices.Sort(ids)
		if !slices.Equal(got, ids) {
			t.Errorf("taken out were %v, want %v", got, ids)
		}
		ids = append(ends(), 0, 1, 2, 3)
	}
}

// 21.1: an id that was taken out by Next or by Cancel may come again, of the same tenant or of another one.
func TestOnceMore(t *testing.T) {
	for _, id := range append(ends(), 0, 1) {
		for holder := range 3 {
			for tenant := range 3 {
				for _, out := range []call{{kind: 'n'}, {kind: 'c', id: id}} {
					h := start(t, 3, 1, 4)
					h.all(call{'a', holder, id, 9})
					h.refused(tenant, id, 9, api.ErrTwice)
					h.all(out, call{'a', tenant, id, 8})
					h.refused(holder, id, 9, api.ErrTwice)
					h.taken(id)
				}
			}
		}
	}
}

// 21.1: what stands anywhere in a full row is found, until it is taken out.
func TestTwiceInARow(t *testing.T) {
	for tenant := range 3 {
		for place := range 16 {
			h := start(t, 3, 1, 4)
			h.fill(tenant, 0, 16, 2)
			h.refused((tenant+1)%3, place, 1, api.ErrTwice)
			h.all(call{kind: 'c', id: place}, call{'a', (tenant + 1) % 3, place, 1})
			h.refused(tenant, place, 1, api.ErrTwice)
			h.drain()
		}
	}
}

// 21.1: 16 things of a tenant wait, and no more, also while there is room for others'.
func TestQueueFull(t *testing.T) {
	for tenant := range 4 {
		other := (tenant + 1) % 4
		h := start(t, 1, 2, 16, 7)
		for i := range 16 {
			h.all(call{'a', tenant, i, 3})
		}
		h.refused(tenant, 100, 3, api.QueueFull)
		h.fill(other, 200, 15, 4)
		h.refused(tenant, 100, 3, api.QueueFull)
		h.all(call{kind: 'c', id: 207})
		h.refused(tenant, 100, 3, api.QueueFull)
		h.all(call{kind: 'c', id: 9}, call{'a', tenant, 100, 3})
		h.refused(tenant, 101, 3, api.QueueFull)
		for h.waiting(tenant) == 16 {
			h.next()
		}
		h.all(call{'a', tenant, 101, 3})
		h.refused(tenant, 102, 1, api.QueueFull)
		h.drain()
	}
}

// 21.1: all tenants' rows full at once.
func TestAllFull(t *testing.T) {
	for n := 1; n <= 4; n++ {
		h := start(t, []int{1, 2, 16, 7}[:n]...)
		for tenant := range n {
			h.fill(tenant, 100*tenant, 16, 3+tenant)
		}
		for tenant := range n {
			h.refused(tenant, 1000, 1, api.QueueFull)
		}
		if got := len(h.drain()); got != 16*n {
			t.Errorf("%d were taken out of %d rows", got, n)
		}
	}
}

// 21.1: which error comes first, if more than one is true.
func TestWhichErrorFirst(t *testing.T) {
	h := crowd(t)
	h.fill(1, 100, 13, 6)
	if h.waiting(1) != 16 || h.place(30) >= 0 {
		t.Fatalf("waiting are %v", h.line)
	}
	for _, c := range []struct {
		tenant, id, cost int
		e                api.Errno
	}{
		{4, 11, 5, api.ErrRange},
		{-1, 105, 0, api.ErrRange},
		{4, 30, 10001, api.ErrRange},
		{0, 1, 0, api.ErrRange},
		{0, 1, 10001, api.ErrRange},
		{0, 105, 0, api.ErrRange},
		{1, 30, 0, api.ErrRange},
		{1, 30, 10001, api.ErrRange},
		{1, 105, 0, api.ErrRange},
		{1, 105, 10001, api.ErrRange},
		{1, 11, 5, api.ErrTwice},
		{1, 112, 5, api.ErrTwice},
		{1, 1, 5, api.ErrTwice},
		{0, 105, 5, api.ErrTwice},
		{3, 105, 5, api.ErrTwice},
		{1, 30, 5, api.QueueFull},
		{1, 30, 10000, api.QueueFull},
	} {
		h.refused(c.tenant, c.id, c.cost, c.e)
	}
	h.all(call{'a', 0, 30, 5})
}

// 21.1: an Add that is refused of a tenant who was idle does not bring its clock to the time.
func TestRefusedOfIdle(t *testing.T) {
	h := crowd(t)
	if h.time == 0 {
		t.Fatalf("the time is 0")
	}
	h.refused(3, 1, 5, api.ErrTwice)
	h.refused(3, 100, 0, api.ErrRange)
	h.refused(3, 100, 10001, api.ErrRange)
	if h.f.Clock(3) != 0 {
		t.Errorf("Clock %d", h.f.Clock(3))
	}
	h.all(call{'a', 3, 100, 5})
	if h.f.Clock(3) != h.time {
		t.Errorf("Clock %d, the time is %d", h.f.Clock(3), h.time)
	}
}

// 21.1: what waits stands behind what waits of that tenant, whatever it costs, and whatever its id is.
func TestBehind(t *testing.T) {
	for tenant := range 4 {
		h := start(t, 1, 2, 16, 7)
		want := []int{9, 3, -7, most, 0, least, 8, 1, -1}
		for i, id := range want {
			h.all(call{'a', tenant, id, []int{10000, 1, 50}[i%3]})
		}
		h.taken(want...)
		for i, id := range want {
			h.all(call{'a', tenant, id, 1 + i})
			if i == 4 {
				h.taken(9, 3)
				h.all(call{kind: 'c', id: most}, call{'a', tenant, 3, 10000})
			}
		}
		h.taken(-7, 0, 3, least, 8, 1, -1)
	}
}

// clocked is three tenants of the weight 1, with clocks of costs 10, 30, 20, and the time at the cost 10; nothing waits.
func clocked(t *testing.T) *hall {
	t.Helper()
	h := start(t, 1, 1, 1)
	h.all(call{'a', 0, 0, 10}, call{'a', 1, 1, 30})
	h.taken(0, 1)
	h.all(call{'a', 2, 2, 10}, call{kind: 'n'}, call{'a', 2, 3, 10}, call{kind: 'n'})
	if !slices.Equal(h.clocks, []int{7207200, 21621600, 14414400}) || h.time != 7207200 {
		t.Fatalf("clocks %v, time %d", h.clocks, h.time)
	}
	return h
}

// 21.1: the clock of a tenant of whom nothing waited: its own, where that is the same or greater, else the time.
func TestClockOfIdle(t *testing.T) {
	clock := func(h *hall, tenant, want int) {
		t.Helper()
		if got := h.f.Clock(tenant); got != want {
			t.Errorf("Clock(%d) %d, want %d", tenant, got, want)
		}
	}
	h := clocked(t)
	for tenant := range 3 {
		h.all(call{'a', tenant, tenant, 5})
	}
	clock(h, 0, 7207200)
	clock(h, 1, 21621600)
	clock(h, 2, 14414400)
	h.taken(0, 2, 1)
	// The time is now the second one's clock ahead of its cost: the others stand behind it.
	h.all(call{'a', 0, 0, 5}, call{'a', 2, 2, 5}, call{'a', 1, 1, 5})
	clock(h, 0, 21621600)
	clock(h, 2, 21621600)
	clock(h, 1, 25225200)
	h.taken(0, 2, 1)
}

// 21.1: the clock of a tenant of whom something waits does not move by what comes to it.
func TestClockOfWaiting(t *testing.T) {
	h := crowd(t)
	for round := range 8 {
		for tenant := range 4 {
			clock := h.f.Clock(tenant)
			waited := h.f.Waiting(tenant) > 0
			h.all(call{'a', tenant, 1000 + 4*round + tenant, 1 + 1000*round})
			if waited && h.f.Clock(tenant) != clock {
				t.Errorf("Clock(%d) was %d, is %d", tenant, clock, h.f.Clock(tenant))
			}
		}
		h.next()
	}
	h.drain()
}

// 21.1: of whom all was cancelled nothing waits: its clock comes to the time again.
func TestClockBehindCancel(t *testing.T) {
	h := start(t, 1, 1)
	h.all(call{'a', 1, 50, 9})
	h.fill(0, 0, 8, 100)
	h.all(call{'a', 1, 51, 9}, call{kind: 'c', id: 50}, call{kind: 'c', id: 51})
	h.taken(0, 1, 2, 3)
	h.all(call{'a', 1, 50, 9})
	if h.f.Clock(1) != 300*720720 {
		t.Errorf("Clock %d", h.f.Clock(1))
	}
	h.taken(50, 4, 5)
}
