package registry

import (
	"math"
	"strings"
	"testing"

	"aviary/api"
	"aviary/shelf"
)

// 24.1: New is nothing.
func TestNew(t *testing.T) {
	w := start(t, 3)
	w.current("m", 0)
	if n := w.r.Pages(); n != 0 {
		t.Errorf("Pages %d", n)
	}
	// What others have in the pool, and on the shelf, is none of the registry's.
	w = start(t, 5)
	w.take("mm.1", 2)
	w.loose("x", 1)
	w.r = New(w.p, w.s)
	w.check("New")
	w.is(w.unload("m", 1), api.UnknownModel)
	w.is(w.remove("x"), api.UnknownModel)
	w.is(w.use("x", 0), api.UnknownModel)
}

// 24.1: two registries on one pool know nothing of each other.
func TestTwoRegistries(t *testing.T) {
	w := start(t, 8)
	w.is(w.load("m", 1, made(small(), 1)), api.OK)
	other := New(w.p, w.s)
	if e := other.Swap("m", 1); e != api.UnknownModel {
		t.Errorf("Swap: error %d", e)
	}
	if _, ok := other.Current("m"); ok || other.Pages() != 0 {
		t.Errorf("the other one has a version")
	}
	w.check("another registry")
}

// 24.1: names from 1 to 16 bytes, of whatever bytes.
func TestLoadNames(t *testing.T) {
	for _, x := range []struct {
		name string
		want api.Errno
	}{
		{"", api.Malformed}, {"a", api.OK}, {strings.Repeat("a", 15), api.OK}, {strings.Repeat("a", 16), api.OK}, {strings.Repeat("a", 17), api.Malformed},
		{strings.Repeat("a", 70000), api.Malformed}, {"\x00", api.OK}, {"\xff\xfe", api.OK}, {" ", api.OK}, {".", api.OK}, {"1", api.OK}, {"a.1", api.OK}, {"A\n", api.OK},
		{strings.Repeat("é", 8), api.OK}, {strings.Repeat("é", 8) + "a", api.Malformed}, {strings.Repeat("é", 9), api.Malformed},
	} {
		w := start(t, 2)
		if e := w.load(x.name, 1, made(small(), 1)); e != x.want {
			t.Errorf("name %.20q: error %d, want %d", x.name, e, x.want)
		}
		if x.want == api.OK {
			w.current(x.name, 1)
			w.has("m"+x.name+".1", 2)
		}
	}
}

// 24.1: versions from 1 to 999999.
func TestLoadVersions(t *testing.T) {
	for _, x := range []struct {
		version int
		want    api.Errno
		tag     string
	}{
		{1, api.OK, "mm.1"}, {2, api.OK, "mm.2"}, {10, api.OK, "mm.10"}, {999998, api.OK, "mm.999998"}, {999999, api.OK, "mm.999999"},
		{0, api.Malformed, ""}, {-1, api.Malformed, ""}, {1000000, api.Malformed, ""}, {math.MinInt64, api.Malformed, ""}, {math.MaxInt64, api.Malformed, ""}, {1<<32 + 1, api.Malformed, ""},
	} {
		w := start(t, 2)
		if e := w.load("m", x.version, made(small(), 1)); e != x.want {
			t.Errorf("version %d: error %d, want %d", x.version, e, x.want)
		}
		if x.want == api.OK {
			w.current("m", x.version)
			w.has(x.tag, 2)
		}
	}
}

// wrongModels is models that are none, one for each reason.
func wrongModels() []api.Model {
	var all []api.Model
	for _, c := range []api.Config{
		{}, {Dim: 3, Heads: 1, Layers: 1, Vocab: 2, Hidden: 1}, {Dim: 10, Heads: 1, Layers: 1, Vocab: 2, Hidden: 1}, {Dim: 2, Layers: 1, Vocab: 2, Hidden: 1},
		{Dim: 2, Heads: 2, Layers: 1, Vocab: 2, Hidden: 1}, {Dim: 6, Heads: 2, Layers: 1, Vocab: 2, Hidden: 1}, {Dim: 2, Heads: 1, Layers: 3, Vocab: 2, Hidden: 1},
		{Dim: 2, Heads: 1, Layers: 0, Vocab: 2, Hidden: 1}, {Dim: 2, Heads: 1, Layers: 1, Vocab: 1, Hidden: 1}, {Dim: 2, Heads: 1, Layers: 1, Vocab: 17, Hidden: 1},
		{Dim: 2, Heads: 1, Layers: 1, Vocab: 2, Hidden: 0}, {Dim: 2, Heads: 1, Layers: 1, Vocab: 2, Hidden: 9}, {Dim: 2, Heads: 1, Layers: 1, Vocab: 2, Hidden: 1, Experts: 1, TopK: 1},
		{Dim: 2, Heads: 1, Layers: 1, Vocab: 2, Hidden: 1, Experts: 5, TopK: 1}, {Dim: 2, Heads: 1, Layers: 1, Vocab: 2, Hidden: 1, Experts: 2},
		{Dim: 2, Heads: 1, Layers: 1, Vocab: 2, Hidden: 1, Experts: 2, TopK: 3}, {Dim: 2, Heads: 1, Layers: 1, Vocab: 2, Hidden: 1, TopK: 1},
		{Dim: 2, Heads: 1, Layers: 1, Vocab: 2, Hidden: 1, Window: 17}, {Dim: 2, Heads: 1, Layers: 1, Vocab: 2, Hidden: 1, Window: -1},
	} {
		all = append(all, made(c, 1))
	}
	all = append(all, api.Model{Config: small()}, api.Model{Layers: make([]api.Layer, 1)})
	for i := range lists(made(broad(), 1)) {
		for _, by := range []int{-1, 1} {
			m := made(broad(), 1)
			one := pointers(&m)[i]
			*one = append(*one, 0)[:len(*one)+by]
			all = append(all, m)
		}
	}
	for _, change := range []func(m *api.Model){
		func(m *api.Model) { m.Layers = m.Layers[:1] },
		func(m *api.Model) { m.Layers = append(m.Layers, m.Layers[0]) },
		func(m *api.Model) { m.Layers[0].Up = m.Layers[0].Up[:1] },
		func(m *api.Model) { m.Layers[1].Up = append(m.Layers[1].Up, m.Layers[1].Up[0]) },
		func(m *api.Model) { m.Layers[0].Down = nil },
		func(m *api.Model) { m.Layers[1].Down = append(m.Layers[1].Down, m.Layers[1].Down[0]) },
	} {
		m := made(broad(), 1)
		change(&m)
		all = append(all, m)
	}
	return all
}

// pointers is where a model's lists stand, in the order of lists.
func pointers(m *api.Model) []*[]int8 {
	all := []*[]int8{&m.Embed}
	for i := range m.Layers {
		l := &m.Layers[i]
		all = append(all, &l.Norm1, &l.Q, &l.K, &l.V, &l.O, &l.Norm2, &l.Router)
		for j := range l.Up {
			all = append(all, &l.Up[j], &l.Down[j])
		}
	}
	return append(all, &m.Norm, &m.Out)
}

// 24.1: a model that is not right is refused, for each reason; the right ones beside them are not.
func TestLoadWrongModels(t *testing.T) {
	w := start(t, 20)
	w.is(w.load("m", 1, made(small(), 1)), api.OK)
	for i, m := range wrongModels() {
		if e := w.load("m", 2, m); e != api.Malformed {
			t.Errorf("model %d: error %d", i, e)
		}
	}
	w.current("m", 1)
	w.is(w.load("m", 2, made(broad(), 1)), api.OK)
	w.is(w.load("m", 3, made(wide(), 1)), api.OK)
}

// 24.1: VersionTaken of one that is there, also of one that is draining; not of one that was taken away.
func TestLoadTaken(t *testing.T) {
	w := start(t, 12)
	w.is(w.load("m", 1, made(small(), 1)), api.OK)
	w.is(w.load("m", 2, made(small(), 2)), api.OK)
	w.is(w.load("m", 2, made(small(), 3)), api.VersionTaken)
	w.is(w.load("m", 1, made(wide(), 3)), api.VersionTaken)
	w.current("m", 2) // what is refused is not made current
	w.is(w.hold("m", 1), api.OK)
	w.is(w.unload("m", 1), api.OK)
	w.is(w.load("m", 1, made(small(), 4)), api.VersionTaken)
	w.is(w.let("m", 1), api.OK)
	w.is(w.load("m", 1, made(wide(), 5)), api.OK)
	w.current("m", 1)
	w.is(w.unload("m", 1), api.OK)
	w.is(w.load("m", 1, made(small(), 6)), api.OK)
	w.current("m", 1)
	if n := w.r.Pages(); n != 4 {
		t.Errorf("Pages %d", n)
	}
}

// 24.1: other versions of a name, and other names with the same version, do not matter to one another.
func TestLoadOthers(t *testing.T) {
	w := start(t, 20)
	for i, x := range []struct {
		name    string
		version int
	}{{"m", 1}, {"n", 1}, {"m", 3}, {"n", 2}, {"m", 2}, {"mm", 1}, {"M", 1}, {"o", 999999}} {
		w.is(w.load(x.name, x.version, made(small(), i)), api.OK)
		w.is(w.load(x.name, x.version, made(small(), i)), api.VersionTaken)
	}
	for _, x := range []struct {
		name    string
		version int
	}{{"m", 2}, {"n", 2}, {"mm", 1}, {"M", 1}, {"o", 999999}} {
		w.current(x.name, x.version)
	}
}

// 24.1: names with points and digits, whose tags are near one another, have pages of their own.
func TestLoadNearTags(t *testing.T) {
	w := start(t, 40)
	type near struct {
		name    string
		version int
	}
	all := []near{{"a", 1}, {"a", 11}, {"a1", 1}, {"a.1", 1}, {"a.", 1}, {"a.1", 11}, {"a.1.1", 1}, {"1", 1}, {"1.1", 1}, {".", 1}, {"..1", 1}, {"a", 111}, {"a11", 1}, {"ma", 1}, {"m", 1}, {"+a", 1}, {"a.01", 1}}
	for i, x := range all {
		w.is(w.load(x.name, x.version, made(small(), i)), api.OK)
	}
	for _, tag := range []string{"ma.1", "ma.11", "ma1.1", "ma.1.1", "ma..1", "ma.1.11", "ma.1.1.1", "m1.1", "m1.1.1", "m..1", "m..1.1", "ma.111", "ma11.1", "mma.1", "mm.1", "m+a.1", "ma.01.1"} {
		w.has(tag, 2)
	}
	for i := range all {
		x := all[(i*5)%len(all)]
		w.is(w.unload(x.name, x.version), api.OK)
	}
	if _, free, _ := w.p.Sizes(); free != 40 {
		t.Errorf("%d pages are free", free)
	}
}

// 24.1: just the pages that are needed are enough, and one less is not, whatever the model.
func TestLoadJustEnough(t *testing.T) {
	for _, x := range []struct {
		c     api.Config
		pages int
	}{{small(), 2}, {wide(), 4}, {broad(), 8}} {
		w := start(t, x.pages)
		w.is(w.load("m", 1, made(x.c, 1)), api.OK)
		w.has("mm.1", x.pages)
		w.is(w.load("m", 2, made(small(), 1)), api.OutOfMemory)
		w.current("m", 1)
		w = start(t, x.pages-1)
		w.is(w.load("m", 1, made(x.c, 1)), api.OutOfMemory)
		w.current("m", 0)
		// Pages that were laid aside are not at hand.
		w = start(t, x.pages+3)
		w.reserve(4)
		w.is(w.load("m", 1, made(x.c, 1)), api.OutOfMemory)
		w.unreserve(1)
		w.is(w.load("m", 1, made(x.c, 1)), api.OK)
		w = start(t, x.pages+3)
		w.take("r7", 4)
		w.is(w.load("m", 1, made(x.c, 1)), api.OutOfMemory)
		w.drop(2)
		w.is(w.load("m", 1, made(x.c, 1)), api.OK)
	}
}

// 24.1: what nobody holds is yielded, the one that was pinned longest ago first, and no more of it than is needed.
func TestLoadYields(t *testing.T) {
	for _, x := range []struct {
		spare int // pages at hand ahead of Load
		left  string
	}{{0, "d"}, {1, "d"}, {2, "c d"}, {3, "b c d"}, {4, "a b c d"}, {5, "a b c d"}} {
		w := start(t, 7+x.spare)
		w.loose("a", 1)
		w.loose("b", 1)
		w.loose("c", 2)
		w.loose("d", 3)
		w.resident("a b c d")
		w.is(w.load("m", 1, made(wide(), 1)), api.OK)
		w.resident(x.left)
		w.has("mm.1", 4)
	}
	// The order is that of pinning, not that of laying in.
	w := start(t, 6)
	w.loose("a", 2)
	w.loose("b", 2)
	w.loose("c", 2)
	w.pin("a")
	w.unpin("a")
	w.is(w.load("m", 1, made(small(), 1)), api.OK)
	w.resident("c a")
}

// 24.1: what is held is not yielded, so that just its pages are missing.
func TestLoadHeldAdapters(t *testing.T) {
	w := start(t, 8)
	w.loose("a", 1)
	w.loose("b", 2)
	w.loose("c", 2)
	w.pin("b")
	w.is(w.load("m", 1, made(broad(), 1)), api.OutOfMemory)
	w.is(w.load("m", 1, made(wide(), 1)), api.OK)
	w.resident("c b")
	w = start(t, 7)
	w.loose("a", 1)
	w.loose("b", 2)
	w.loose("c", 2)
	w.pin("b")
	w.reserve(2)
	w.is(w.load("m", 1, made(wide(), 1)), api.OutOfMemory)
	w.resident("a c b")
	w.unpin("b")
	w.is(w.load("m", 1, made(wide(), 1)), api.OK)
	w.resident("")
	// Held twice and let go of once is held.
	w = start(t, 2)
	w.loose("a", 1)
	w.pin("a")
	w.pin("a")
	w.unpin("a")
	w.is(w.load("m", 1, made(small(), 1)), api.OutOfMemory)
	w.unpin("a")
	w.is(w.load("m", 1, made(small(), 1)), api.OK)
}

// 24.1: a registry's own adapters are yielded like any others, and are there nevertheless.
func TestLoadYieldsOwnAdapters(t *testing.T) {
	w := start(t, 5)
	w.is(w.load("m", 1, made(small(), 1)), api.OK)
	w.is(w.graft("x", "m", madeAdapter(small(), 4, 8, 1)), api.OK)
	w.is(w.graft("y", "m", madeAdapter(small(), 1, 0, 2)), api.OK)
	w.pin("x")
	w.pin("y")
	w.is(w.load("m", 2, made(small(), 2)), api.OutOfMemory)
	w.unpin("x")
	w.is(w.load("m", 2, made(small(), 2)), api.OK)
	w.resident("y")
	w.unpin("y")
	w.is(w.unload("m", 1), api.OK)
	w.resident("")
}

// 24.1, R2: of two errors of Load the one that is named first.
func TestLoadOrder(t *testing.T) {
	w := start(t, 2)
	w.is(w.load("m", 1, made(small(), 1)), api.OK)
	wrong := wrongModels()[0]
	w.is(w.load("", 1, wrong), api.Malformed)
	w.is(w.load("m", 1, wrong), api.Malformed)               // ahead of VersionTaken
	w.is(w.load("n", 1, wrong), api.Malformed)               // ahead of OutOfMemory
	w.is(w.load("", 1, made(small(), 1)), api.Malformed)     // likewise
	w.is(w.load("m", 0, made(small(), 1)), api.Malformed)    // likewise
	w.is(w.load("m", 1, made(broad(), 1)), api.VersionTaken) // ahead of OutOfMemory
	w.is(w.load("m", 2, made(small(), 1)), api.OutOfMemory)
	w.is(w.hold("m", 1), api.OK)
	w.is(w.unload("m", 1), api.OK)
	w.is(w.load("m", 1, made(broad(), 1)), api.VersionTaken)
}

// R2: where somebody else shares a page of the shelf, it cannot be had, whatever Room says; nothing has happened then.
func TestLoadSharedPage(t *testing.T) {
	w := start(t, 4)
	w.loose("a", 1)
	w.loose("b", 3)
	w.pages[0].owners++
	if e := w.p.Share(0); e != api.OK {
		t.Fatalf("Share: error %d", e)
	}
	w.check("Share")
	if e := w.r.Load("m", 1, made(wide(), 1)); e != api.OutOfMemory {
		t.Errorf("Load: error %d", e)
	}
	w.check("a refused Load")
	w.resident("a b")
	w.is(w.load("m", 1, made(small(), 1)), api.OK)
	w.resident("")
	// What is held is no page to be had instead.
	w = start(t, 3)
	w.loose("a", 1)
	w.loose("b", 1)
	w.pin("b")
	w.pages[0].owners++
	if e := w.p.Share(0); e != api.OK {
		t.Fatalf("Share: error %d", e)
	}
	if e := w.r.Load("m", 1, made(small(), 1)); e != api.OutOfMemory {
		t.Errorf("Load: error %d", e)
	}
	w.check("a refused Load")
	w.resident("a b")
}

// 24.1: pages that others took with a tag of the shelf's are not in its Room; what is refused for want of them has yielded nothing.
func TestLoadForeignShelfTag(t *testing.T) {
	w := start(t, 4)
	w.put("a", weights(90, 1))
	w.loose("b", 1)
	w.take("+a", 3)
	w.is(w.load("m", 1, made(small(), 1)), api.OutOfMemory)
	w.resident("b")
	w.drop(2)
	w.is(w.load("m", 1, made(small(), 1)), api.OK)
	w.resident("")
}

// 24.1: a shelf on another pool has no pages to yield here; Load ends all the same.
func TestLoadOtherPool(t *testing.T) {
	here, there := start(t, 3), start(t, 9)
	there.loose("a", 9)
	r := New(here.p, there.s)
	if e := r.Load("m", 1, made(wide(), 1)); e != api.OutOfMemory {
		t.Errorf("Load: error %d", e)
	}
	there.resident("a")
	if e := r.Load("m", 1, made(small(), 1)); e != api.OK || here.p.Count("mm.1") != 2 {
		t.Errorf("Load: error %d", e)
	}
	// Pages that others took with a tag of the shelf's are not the shelf's; Load ends here, too.
	here = start(t, 4)
	here.take("+a", 4)
	r = New(here.p, there.s)
	if e := r.Load("m", 1, made(small(), 1)); e != api.OutOfMemory {
		t.Errorf("Load: error %d", e)
	}
	if got, ok := r.Current("m"); ok || r.Pages() != 0 {
		t.Errorf("Current %d", got)
	}
	// It is that shelf's Room that counts, also where there are pages enough here.
	here, there = start(t, 9), start(t, 1)
	r = New(here.p, shelf.New(there.p))
	if e := r.Load("m", 1, made(small(), 1)); e != api.OutOfMemory {
		t.Errorf("Load: error %d", e)
	}
	here.check("a refused Load")
}
