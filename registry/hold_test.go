package registry

import (
	"math"
	"strings"
	"testing"

	"aviary/api"
)

// 24: the chapter's example.
func TestExample(t *testing.T) {
	w := start(t, 8)
	w.is(w.load("m", 1, made(small(), 1)), api.OK)
	w.is(w.load("m", 2, made(small(), 2)), api.OK)
	w.current("m", 2)
	w.is(w.swap("m", 1), api.OK)
	w.current("m", 1)
	w.is(w.hold("m", 1), api.OK)
	w.is(w.unload("m", 1), api.OK)
	if !w.r.Draining("m", 1) || !w.r.Drains("m") {
		t.Errorf("it is not draining")
	}
	w.current("m", 0)
	w.is(w.let("m", 1), api.OK)
	w.has("mm.1", 0)
	if w.r.Draining("m", 1) || w.r.Drains("m") {
		t.Errorf("it is draining")
	}
	w.is(w.swap("m", 2), api.OK)
	w.current("m", 2)
}

// 24.1, 24.2: of a version that is not there: UnknownModel, whatever else there is.
func TestUnknown(t *testing.T) {
	w := start(t, 10)
	w.is(w.load("m", 2, made(small(), 1)), api.OK)
	w.is(w.load("n", 1, made(small(), 2)), api.OK)
	w.is(w.load("m", 3, made(small(), 3)), api.OK)
	w.is(w.unload("m", 3), api.OK)
	for _, x := range []struct {
		name    string
		version int
	}{
		{"m", 1}, {"n", 2}, {"m", 3}, {"", 0}, {"", 1}, {"m", 0}, {"m", -2}, {"m", 1000000}, {"m", math.MinInt64}, {"m", math.MaxInt64}, {"m", 2 + 1<<32},
		{"M", 2}, {"m ", 2}, {"mm", 2}, {strings.Repeat("m", 17), 2}, {strings.Repeat("m", 70000), 2},
	} {
		w.is(w.unload(x.name, x.version), api.UnknownModel)
		w.is(w.swap(x.name, x.version), api.UnknownModel)
		w.is(w.hold(x.name, x.version), api.UnknownModel)
		w.is(w.let(x.name, x.version), api.UnknownModel)
		if m, e := w.r.Model(x.name, x.version); e != api.UnknownModel || !same(m, api.Model{}) {
			t.Errorf("Model: %v, error %d", m, e)
		}
		if w.r.Draining(x.name, x.version) {
			t.Errorf("Draining(%.20q, %d)", x.name, x.version)
		}
	}
	w.current("m", 0) // the current one was unloaded; the one ahead of it does not come back
	w.current("n", 1)
}

// 24.1: Unload of one that nobody holds takes it away at once, and no other.
func TestUnloadAtOnce(t *testing.T) {
	w := start(t, 20)
	for v := 1; v <= 4; v++ {
		w.is(w.load("m", v, made(small(), v)), api.OK)
		w.is(w.load("n", v, made(small(), v+10)), api.OK)
	}
	w.is(w.unload("m", 2), api.OK) // not the current one
	w.current("m", 4)
	w.is(w.unload("m", 4), api.OK) // the current one
	w.current("m", 0)
	w.current("n", 4)
	w.is(w.unload("m", 4), api.UnknownModel)
	w.is(w.unload("m", 1), api.OK) // there is no current one
	w.current("m", 0)
	w.is(w.swap("m", 3), api.OK)
	w.current("m", 3)
	w.has("mm.3", 2)
	if n := w.r.Pages(); n != 10 {
		t.Errorf("Pages %d", n)
	}
}

// 24.1: Unload of one that is held leaves it draining; of the current one the name has none then, of another it keeps its own.
func TestUnloadHeld(t *testing.T) {
	w := start(t, 8)
	for v := 1; v <= 3; v++ {
		w.is(w.load("m", v, made(small(), v)), api.OK)
		w.is(w.hold("m", v), api.OK)
	}
	w.is(w.unload("m", 1), api.OK)
	w.current("m", 3)
	w.is(w.unload("m", 3), api.OK)
	w.current("m", 0)
	for _, v := range []int{1, 3} {
		w.is(w.unload("m", v), api.Draining)
		w.is(w.swap("m", v), api.Draining)
		w.is(w.hold("m", v), api.Draining)
		if !w.r.Draining("m", v) {
			t.Errorf("%d is not draining", v)
		}
	}
	if w.r.Draining("m", 2) || !w.r.Drains("m") {
		t.Errorf("2 is draining, or none of m is")
	}
	w.is(w.swap("m", 2), api.OK)
	w.current("m", 2)
	w.is(w.let("m", 3), api.OK)
	if !w.r.Drains("m") {
		t.Errorf("1 is draining no more")
	}
	w.is(w.let("m", 1), api.OK)
	if w.r.Drains("m") {
		t.Errorf("m drains")
	}
	w.is(w.let("m", 1), api.UnknownModel)
	w.is(w.let("m", 2), api.OK)
	w.current("m", 2)
	w.has("mm.2", 2)
}

// 24.1: Swap makes current what is there, also what is current, and what was unloaded and loaded again.
func TestSwap(t *testing.T) {
	w := start(t, 8)
	for v := 1; v <= 3; v++ {
		w.is(w.load("m", v, made(small(), v)), api.OK)
	}
	for _, v := range []int{3, 1, 1, 2, 3, 2} {
		w.is(w.swap("m", v), api.OK)
		w.current("m", v)
	}
	w.is(w.unload("m", 2), api.OK)
	w.is(w.swap("m", 2), api.UnknownModel)
	w.current("m", 0)
	w.is(w.load("m", 2, made(small(), 7)), api.OK)
	w.is(w.swap("m", 1), api.OK)
	w.is(w.swap("m", 2), api.OK)
	w.current("m", 2)
	// One that was swapped to behind the unloading of another stays.
	w.is(w.swap("m", 3), api.OK)
	w.is(w.unload("m", 2), api.OK)
	w.current("m", 3)
}

// 24.2: Hold counts; only as many Lets take it back, and a version that is not draining stays.
func TestHoldCounts(t *testing.T) {
	w := start(t, 4)
	w.is(w.load("m", 1, made(small(), 1)), api.OK)
	w.is(w.let("m", 1), api.ErrState)
	for range 5 {
		w.is(w.hold("m", 1), api.OK)
	}
	for range 5 {
		w.is(w.let("m", 1), api.OK)
	}
	w.is(w.let("m", 1), api.ErrState)
	w.current("m", 1)
	w.has("mm.1", 2)
	for range 3 {
		w.is(w.hold("m", 1), api.OK)
	}
	w.is(w.let("m", 1), api.OK)
	w.is(w.unload("m", 1), api.OK)
	w.is(w.let("m", 1), api.OK)
	w.has("mm.1", 2)
	w.is(w.let("m", 1), api.OK)
	w.has("mm.1", 0)
	w.is(w.let("m", 1), api.UnknownModel)
	// One that is loaded again is held by nobody.
	w.is(w.load("m", 1, made(small(), 2)), api.OK)
	w.is(w.let("m", 1), api.ErrState)
}

// 24.2: each version is held by itself, also two of one name, and of two names the same.
func TestHoldEach(t *testing.T) {
	w := start(t, 8)
	w.is(w.load("m", 1, made(small(), 1)), api.OK)
	w.is(w.load("m", 2, made(small(), 2)), api.OK)
	w.is(w.load("n", 1, made(small(), 3)), api.OK)
	w.is(w.hold("m", 1), api.OK)
	w.is(w.let("m", 2), api.ErrState)
	w.is(w.let("n", 1), api.ErrState)
	w.is(w.unload("m", 2), api.OK)
	w.is(w.unload("n", 1), api.OK)
	if w.r.Drains("m") || w.r.Drains("n") {
		t.Errorf("something drains")
	}
	w.is(w.unload("m", 1), api.OK)
	if !w.r.Drains("m") || w.r.Drains("n") {
		t.Errorf("m does not drain, or n does")
	}
	w.is(w.let("m", 1), api.OK)
}

// 24.1, 24.2: with the last Let a draining version's adapters and pages are gone, and no other's.
func TestLastLet(t *testing.T) {
	w := start(t, 16)
	d := madeAdapter(small(), 4, 1, 1)
	w.is(w.load("m", 2, made(small(), 2)), api.OK)
	w.is(w.graft("of2", "m", d), api.OK)
	w.is(w.load("m", 1, made(small(), 1)), api.OK)
	w.is(w.load("n", 1, made(small(), 3)), api.OK)
	for _, key := range []string{"c", "a", "b"} {
		w.is(w.graft(key, "m", d), api.OK)
		w.pin(key)
		w.unpin(key)
	}
	w.is(w.graft("ofn", "n", d), api.OK)
	w.pin("of2")
	w.pin("ofn")
	w.is(w.use("a", 3), api.OK)
	w.is(w.hold("m", 1), api.OK)
	w.is(w.hold("m", 1), api.OK)
	w.is(w.unload("m", 1), api.OK)
	w.is(w.let("m", 1), api.OK)
	for _, key := range []string{"a", "b", "c"} {
		if _, e := w.r.Adapter(key, "m", 1); e != api.OK {
			t.Errorf("%s is gone: error %d", key, e)
		}
	}
	w.is(w.let("m", 1), api.OK)
	w.resident("of2 ofn")
	for _, key := range []string{"a", "b", "c"} {
		if _, e := w.r.Adapter(key, "m", 1); e != api.UnknownModel || w.s.Pins(key) != -1 {
			t.Errorf("%s is there: error %d", key, e)
		}
		w.is(w.use(key, 0), api.UnknownModel)
		w.is(w.remove(key), api.UnknownModel)
	}
	w.has("mm.1", 0)
	w.has("mm.2", 2)
	w.has("mn.1", 2)
	w.is(w.remove("ofn"), api.ErrState)
	w.unpin("ofn")
	w.is(w.remove("ofn"), api.OK)
}

// 24: an adapter that is held on the shelf stays there when its version is taken away, and belongs to nobody.
func TestHeldAdapterStays(t *testing.T) {
	w := start(t, 10)
	d := madeAdapter(small(), 1, 0, 1)
	w.is(w.load("m", 1, made(small(), 1)), api.OK)
	for _, key := range []string{"a", "b", "c"} {
		w.is(w.graft(key, "m", d), api.OK)
		w.pin(key)
	}
	w.unpin("a")
	w.unpin("c")
	w.is(w.unload("m", 1), api.OK)
	w.resident("b")
	if n := w.s.Pins("b"); n != 1 {
		t.Errorf("Pins %d", n)
	}
	w.is(w.use("b", 1), api.UnknownModel)
	w.is(w.remove("b"), api.UnknownModel)
	w.is(w.load("m", 1, made(small(), 2)), api.OK)
	if _, e := w.r.Adapter("b", "m", 1); e != api.UnknownModel {
		t.Errorf("b is the new version's: error %d", e)
	}
	w.is(w.graft("b", "m", d), api.VersionTaken)
	w.is(w.graft("a", "m", d), api.OK)
	w.unpin("b")
	if e := w.s.Remove("b"); e != api.OK {
		t.Errorf("the shelf's Remove: error %d", e)
	}
	w.offShelf("b")
	w.check("the shelf's Remove")
	w.is(w.graft("b", "m", d), api.OK)
	w.is(w.unload("m", 1), api.OK)
	if w.s.Pins("a") != -1 || w.s.Pins("b") != -1 {
		t.Errorf("they are still on the shelf")
	}
}

// 24.2: Current, Draining, Drains and Pages of none, one and several versions, behind each call that changes them.
func TestTell(t *testing.T) {
	w := start(t, 30)
	tell := func(m, n, pages int, drains string) {
		t.Helper()
		w.current("m", m)
		w.current("n", n)
		w.current("o", 0)
		if got := w.r.Pages(); got != pages {
			t.Errorf("Pages %d, want %d", got, pages)
		}
		for _, name := range []string{"m", "n", "o", ""} {
			if got, want := w.r.Drains(name), name != "" && strings.Contains(drains, name); got != want {
				t.Errorf("Drains(%q) %t", name, got)
			}
		}
	}
	tell(0, 0, 0, "")
	w.is(w.load("m", 5, made(small(), 1)), api.OK)
	tell(5, 0, 2, "")
	w.is(w.load("m", 3, made(wide(), 1)), api.OK)
	tell(3, 0, 6, "")
	w.is(w.load("n", 3, made(broad(), 1)), api.OK)
	tell(3, 3, 14, "")
	w.is(w.swap("m", 5), api.OK)
	tell(5, 3, 14, "")
	w.is(w.hold("n", 3), api.OK)
	w.is(w.hold("m", 3), api.OK)
	tell(5, 3, 14, "")
	w.is(w.unload("m", 3), api.OK)
	tell(5, 3, 14, "m") // a draining version still has its pages
	w.is(w.unload("n", 3), api.OK)
	tell(5, 0, 14, "mn")
	w.is(w.unload("m", 5), api.OK)
	tell(0, 0, 12, "mn")
	w.is(w.load("n", 1, made(small(), 1)), api.OK)
	tell(0, 1, 14, "mn")
	w.is(w.let("m", 3), api.OK)
	tell(0, 1, 10, "n")
	w.is(w.let("n", 3), api.OK)
	tell(0, 1, 2, "")
	w.is(w.unload("n", 1), api.OK)
	tell(0, 0, 0, "")
}
