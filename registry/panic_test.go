package registry

import (
	"math"
	"strings"
	"testing"

	"aviary/api"
	"aviary/pool"
	"aviary/shelf"
)

// ends is numbers at which something may wrap round.
func ends() []int {
	return []int{math.MinInt64, math.MinInt64 + 1, -1 << 32, math.MinInt32, -1000001, -1000000, -1, 0, 1, 2, 999999, 1000000, 1000001, math.MaxInt32, 1 << 32, math.MaxInt64 - 1, math.MaxInt64}
}

// texts is names and keys of all kinds.
func texts() []string {
	return []string{"", "a", "m", "a.1", "\x00", "\xff", strings.Repeat("m", 16), strings.Repeat("m", 17), strings.Repeat("m", 1<<20)}
}

// oddModels is models that are none, and a right one.
func oddModels() []api.Model {
	all := append(wrongModels(), made(small(), 1))
	for _, n := range ends() {
		for i := range 8 {
			c := broad()
			*[]*int{&c.Dim, &c.Heads, &c.Layers, &c.Vocab, &c.Hidden, &c.Experts, &c.TopK, &c.Window}[i] = n
			m := made(broad(), 1)
			m.Config = c
			all = append(all, m)
		}
	}
	return all
}

// R1: no call panics, whatever is handed in; with nothing there, and with versions, held and draining ones, and adapters.
func TestNoPanic(t *testing.T) {
	for _, filled := range []bool{false, true} {
		p, _ := pool.New(30)
		s := shelf.New(p)
		r := New(p, s)
		if filled {
			fill(t, r, s)
		}
		for _, name := range texts() {
			for _, n := range ends() {
				tryAll(r, name, n)
			}
			for _, m := range oddModels() {
				r.Load(name, 3, m)
				r.Unload(name, 3)
			}
			for _, d := range append(wrongAdapters(), madeAdapter(small(), 1, 0, 1)) {
				for _, key := range texts() {
					r.Graft(key, name, d)
					r.Remove(key)
				}
			}
		}
	}
}

// fill lays a version that is current, one that is draining, and adapters into a registry.
func fill(t *testing.T, r *Registry, s *shelf.Shelf) {
	t.Helper()
	d := madeAdapter(small(), 1, 0, 1)
	for _, e := range []api.Errno{
		r.Load("a", 1, made(small(), 1)), r.Graft("a", "a", d), r.Graft("m", "a", d), s.Pin("m"), r.Hold("a", 1), r.Unload("a", 1),
		r.Load("a", 2, made(small(), 2)), r.Graft("\xff", "a", d), r.Load("m", 999999, made(small(), 3)), r.Hold("m", 999999),
	} {
		if e != api.OK {
			t.Fatalf("error %d", e)
		}
	}
}

// tryAll calls everything that takes a text and a number.
func tryAll(r *Registry, name string, n int) {
	r.Load(name, n, api.Model{})
	r.Load(name, n, made(small(), 1))
	r.Hold(name, n)
	r.Swap(name, n)
	r.Current(name)
	r.Draining(name, n)
	r.Drains(name)
	r.Model(name, n)
	r.Pages()
	r.Graft(name, name, madeAdapter(small(), 1, 0, 1))
	r.Adapter(name, name, n)
	for _, by := range ends() {
		r.Use(name, by)
	}
	r.Use(name, -1000000)
	r.Remove(name)
	r.Unload(name, n)
	r.Let(name, n)
	r.Let(name, n)
}

// R1: nor where others do what they like with the pool and the shelf behind the registry's back.
func TestNoPanicSpoiled(t *testing.T) {
	for seed := range 60 {
		p, _ := pool.New(12)
		s := shelf.New(p)
		r := New(p, s)
		next := &dice{uint64(seed)}
		for range 200 {
			name, n := []string{"a", "m"}[next.below(2)], 1+next.below(3)
			switch next.below(8) {
			case 0:
				p.Drop(next.below(12))
			case 1:
				p.Share(next.below(12))
			case 2:
				p.Put(next.below(12), next.below(32), int64(next.below(1000)))
			case 3:
				p.Take([]string{"+a", "+m", "ma.1", "r"}[next.below(4)], next.below(4))
			case 4:
				p.Reserve(next.below(3))
				p.Unreserve(next.below(3))
			case 5:
				s.Pin(name)
				s.Remove(name)
			case 6:
				s.Unpin(name)
				s.Put(name, weights(next.below(70), 1))
			default:
				tryAll(r, name, n)
				r.Load(name, n, made(small(), 1))
				r.Graft("a", name, madeAdapter(small(), 4, 0, 1))
			}
			all, free, aside := p.Sizes()
			if all != 12 || free < aside {
				t.Fatalf("sizes %d, %d, %d", all, free, aside)
			}
		}
	}
}
