package fair

import (
	"slices"
	"testing"

	"aviary/api"
)

// all16 is all weights that there are.
func all16() []int {
	return []int{1, 2, 3, 4, 5, 6, 7, 8, 9, 10, 11, 12, 13, 14, 15, 16}
}

// noWeights is numbers that are no weights.
func noWeights() []int {
	return append(ends(), 0, 17, 18, 32, 256, 257)
}

// no holds that there is no such Fair.
func no(t *testing.T, weights []int) {
	t.Helper()
	if f, e := New(weights); f != nil || e != api.ErrRange {
		t.Errorf("New of %d weights, %v: %v, error %d", len(weights), weights[:min(len(weights), 9)], f, e)
	}
}

// 21.1: none, one, four weights, and one more.
func TestHowManyWeights(t *testing.T) {
	no(t, nil)
	no(t, []int{})
	no(t, make([]int, 0, 4))
	for n := 1; n <= 4; n++ {
		h := start(t, slices.Repeat([]int{3}, n)...)
		for tenant := range n {
			h.all(call{'a', tenant, tenant, 1})
		}
		h.refused(n, n, 1, api.ErrRange)
	}
	for _, n := range []int{5, 6, 8, 16, 17, 256, 257, 65536, 65537, 65540} {
		no(t, slices.Repeat([]int{1}, n))
		no(t, make([]int, n))
	}
}

// 21.1: each weight, and numbers that are none, at each place of one to four.
func TestWhichWeights(t *testing.T) {
	for n := 1; n <= 4; n++ {
		for place := range n {
			for _, weight := range all16() {
				weights := slices.Repeat([]int{5}, n)
				weights[place] = weight
				h := start(t, weights...)
				h.all(call{'a', place, 1, 7}, call{kind: 'n'})
				if h.f.Clock(place) != 7*ticks[weight-1] {
					t.Errorf("%v: Clock(%d) %d behind a cost of 7", weights, place, h.f.Clock(place))
				}
			}
			for _, weight := range noWeights() {
				weights := slices.Repeat([]int{5}, n)
				weights[place] = weight
				no(t, weights)
				no(t, append(weights, 5, 5, 5, 5))
			}
		}
	}
	no(t, []int{0, 0, 0, 0})
	no(t, []int{17, 0, -1, most})
}

// 21.1: at first nothing waits, all clocks and the time are 0.
func TestNothingAtFirst(t *testing.T) {
	for n := 1; n <= 4; n++ {
		h := start(t, all16()[:n]...)
		h.next()
		for _, id := range append(ends(), 0, 1) {
			h.cancel(id)
		}
		for tenant := range n {
			h.all(call{'a', tenant, 0, 10000})
			if h.f.Clock(tenant) != 0 || h.f.Waiting(tenant) != 1 {
				t.Errorf("%d: Clock %d, Waiting %d", tenant, h.f.Clock(tenant), h.f.Waiting(tenant))
			}
			h.all(call{kind: 'c', id: 0})
		}
		h.probe()
	}
}

// R4: weights that are handed in are as they were, with the room behind them, and are not kept.
func TestWeightsHandedIn(t *testing.T) {
	for n := 1; n <= 4; n++ {
		room := []int{3, 1, 16, 7, 99, 99}
		weights := room[:n]
		f, e := New(weights)
		if e != api.OK {
			t.Fatalf("New(%v): error %d", weights, e)
		}
		h := &hall{t: t, f: f, weights: slices.Clone(weights), clocks: make([]int, n)}
		for i := range room {
			room[i] = []int{5, 0, -3, 2, most, least}[i]
		}
		for tenant := range n {
			h.fill(tenant, tenant*100, 16, 9+tenant)
		}
		h.drain()
		if !slices.Equal(room, []int{5, 0, -3, 2, most, least}) {
			t.Errorf("the list is %v", room)
		}
	}
	room := []int{3, 1, 16, 7, 99, 99, 99}
	for n := range 7 {
		New(room[:n])
		if !slices.Equal(room, []int{3, 1, 16, 7, 99, 99, 99}) {
			t.Fatalf("behind New of %d weights the list is %v", n, room)
		}
	}
}

// Several values do not touch each other, though they were made of one list.
func TestSeveral(t *testing.T) {
	weights := []int{2, 3, 5}
	var halls []*hall
	for range 4 {
		f, e := New(weights)
		if e != api.OK {
			t.Fatalf("New: error %d", e)
		}
		halls = append(halls, &hall{t: t, f: f, weights: weights, clocks: make([]int, 3)})
	}
	d := &dice{21}
	for range 400 {
		// The last one is left as it is.
		one := halls[d.roll(3)]
		one.do(draw(d, one, moods()[2]))
		for _, h := range halls {
			h.check("another one's call")
		}
	}
	for _, h := range halls {
		h.probe()
	}
	if ids := halls[3].drain(); len(ids) != 0 || slices.Max(halls[3].clocks) != 0 {
		t.Errorf("of one that was never called %v waited, clocks %v", ids, halls[3].clocks)
	}
}
