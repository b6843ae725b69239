package registry

import (
	"testing"

	"aviary/api"
	"aviary/ckpt"
	"aviary/gen"
	"aviary/pool"
	"aviary/shelf"
)

// 24.2, 24.4: each kind of model is read back as it was loaded.
func TestModelKinds(t *testing.T) {
	p, _ := pool.New(256)
	r := New(p, shelf.New(p))
	all := configs()
	if len(all) < 4000 {
		t.Fatalf("%d configurations", len(all))
	}
	for i, c := range all {
		m := made(c, i)
		if e := ckpt.Check(m); e != api.OK {
			t.Fatalf("%+v: error %d", c, e)
		}
		if e := r.Load("m", 1, m); e != api.OK {
			t.Fatalf("Load of %+v: error %d", c, e)
		}
		if n := p.Count("mm.1"); n != need(len(flat(m))) || r.Pages() != n {
			t.Fatalf("%+v: %d pages, Pages %d; want %d", c, n, r.Pages(), need(len(flat(m))))
		}
		if got, e := r.Model("m", 1); e != api.OK || !same(got, m) {
			t.Fatalf("Model of %+v: %+v, error %d", c, got, e)
		}
		if e := r.Unload("m", 1); e != api.OK || p.Count("mm.1") != 0 {
			t.Fatalf("Unload of %+v: error %d", c, e)
		}
	}
}

// 24.2: all weights there are, from the least to the greatest, lie in the pages one behind the other.
func TestModelPages(t *testing.T) {
	w := start(t, 6)
	w.take("r1", 1)
	w.take("r2", 1)
	w.take("r3", 1)
	w.drop(1)
	m := made(small(), 1)
	for i, list := range lists(m) {
		for j := range list {
			(*pointers(&m)[i])[j] = int8(-128 + 51*((i+j)%6))
		}
	}
	w.is(w.load("m", 1, m), api.OK)
	for i, want := range flat(m) {
		page := []int{1, 3}[i/cells]
		if v, e := w.p.Get(page, i%cells); e != api.OK || v != int64(want) {
			t.Errorf("weight %d: %d, error %d; want %d", i, v, e, want)
		}
	}
	if w.p.Tag(1) != "mm.1" || w.p.Tag(3) != "mm.1" {
		t.Errorf("tags %q and %q", w.p.Tag(1), w.p.Tag(3))
	}
}

// 24.2: a version that is draining is read as ahead; each version has its own model.
func TestModelDraining(t *testing.T) {
	w := start(t, 20)
	one, two, three := made(small(), 1), made(broad(), 2), made(small(), 3)
	w.is(w.load("m", 1, one), api.OK)
	w.is(w.load("m", 2, two), api.OK)
	w.is(w.load("n", 1, three), api.OK)
	w.is(w.hold("m", 1), api.OK)
	w.is(w.unload("m", 1), api.OK)
	for _, x := range []struct {
		name    string
		version int
		want    api.Model
	}{{"m", 1, one}, {"m", 2, two}, {"n", 1, three}} {
		if got, e := w.r.Model(x.name, x.version); e != api.OK || !same(got, x.want) {
			t.Errorf("Model(%s, %d): %+v, error %d", x.name, x.version, got, e)
		}
	}
	w.is(w.let("m", 1), api.OK)
	if got, e := w.r.Model("m", 1); e != api.UnknownModel || !same(got, api.Model{}) {
		t.Errorf("Model: %+v, error %d", got, e)
	}
	w.is(w.load("m", 1, three), api.OK)
	if got, e := w.r.Model("m", 1); e != api.OK || !same(got, three) {
		t.Errorf("Model: %+v, error %d", got, e)
	}
}

// 24.2: pages that others take, lay aside, and give back between two calls change nothing of it.
func TestModelAmongOthers(t *testing.T) {
	w := start(t, 20)
	w.take("r1", 3)
	w.is(w.load("m", 1, made(wide(), 1)), api.OK)
	w.drop(0)
	w.drop(2)
	w.is(w.load("m", 2, made(wide(), 2)), api.OK)
	w.reserve(3)
	w.take("r2", 4)
	w.loose("x", 2)
	w.drop(1)
	w.unreserve(3)
	w.take("m", 1)
	w.is(w.unload("m", 1), api.OK)
	w.take("mm.3", 4)
	w.pin("x")
	w.reserve(4)
	w.is(w.load("m", 1, made(small(), 3)), api.OutOfMemory)
	w.unpin("x")
	w.is(w.load("m", 1, made(small(), 3)), api.OK)
	w.is(w.unload("m", 2), api.OK)
	if n := w.r.Pages(); n != 2 {
		t.Errorf("Pages %d", n)
	}
}

// 24.2: pages that others took with a version's tag are neither counted nor released with it.
func TestForeignTag(t *testing.T) {
	w := start(t, 8)
	w.take("mm.1", 2)
	w.is(w.load("m", 1, made(small(), 1)), api.OK)
	if n := w.r.Pages(); n != 2 {
		t.Errorf("Pages %d", n)
	}
	if e := w.r.Unload("m", 1); e != api.OK {
		t.Fatalf("Unload: error %d", e)
	}
	if w.p.Owners(0) != 1 || w.p.Owners(1) != 1 || w.p.Owners(2) != 0 || w.p.Owners(3) != 0 {
		t.Errorf("owners %d %d %d %d", w.p.Owners(0), w.p.Owners(1), w.p.Owners(2), w.p.Owners(3))
	}
}

// 24.4: what a loaded version answers is what its model answers by itself.
func TestModelAnswers(t *testing.T) {
	w := start(t, 12)
	m := made(broad(), 5)
	w.is(w.load("m", 1, m), api.OK)
	got, e := w.r.Model("m", 1)
	w.is(e, api.OK)
	ask := api.Ask{Kind: api.Greedy, Prompt: []int{0, 2, 1}, Length: 5, Stop: -1}
	a, _, ea := gen.Answer(m, api.Adapter{}, ask)
	b, _, eb := gen.Answer(got, api.Adapter{}, ask)
	if ea != api.OK || eb != api.OK || len(a) != 5 {
		t.Fatalf("answers %v, error %d; %v, error %d", a, ea, b, eb)
	}
	for i := range a {
		if a[i] != b[i] {
			t.Errorf("answers %v and %v", a, b)
		}
	}
}

// R2: where somebody else writes into a version's pages, or drops them, nothing is said but that the call ends, with nothing beside an error.
func TestModelSpoiled(t *testing.T) {
	p, _ := pool.New(4)
	r := New(p, shelf.New(p))
	if e := r.Load("m", 1, made(small(), 1)); e != api.OK {
		t.Fatalf("Load: error %d", e)
	}
	p.Put(1, 1, 128)
	if m, e := r.Model("m", 1); e != api.ErrRange || !same(m, api.Model{}) {
		t.Errorf("Model %+v, error %d", m, e)
	}
	p.Put(1, 1, -129)
	if m, e := r.Model("m", 1); e != api.ErrRange || !same(m, api.Model{}) {
		t.Errorf("Model %+v, error %d", m, e)
	}
	p.Drop(0)
	if m, e := r.Model("m", 1); e != api.ErrNone || !same(m, api.Model{}) {
		t.Errorf("Model %+v, error %d", m, e)
	}
	if e := r.Unload("m", 1); e != api.OK {
		t.Errorf("Unload: error %d", e)
	}
	if _, e := r.Model("m", 1); e != api.UnknownModel {
		t.Errorf("Model: error %d", e)
	}
}
