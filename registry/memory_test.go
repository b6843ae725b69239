package registry

import (
	"slices"
	"testing"

	"aviary/api"
)

// roomy is a list with spare room behind its end, in which marks lie.
func roomy(w []int8) []int8 {
	room := append(append([]int8{}, w...), 77, 78, 79)
	return room[:len(w)]
}

// marked tells whether the marks behind a list still lie there.
func marked(w []int8) bool {
	return slices.Equal(w[:len(w)+3][len(w):], []int8{77, 78, 79})
}

// roomyModel is a model all of whose lists have marks behind them, the lists of layers and of experts, too.
func roomyModel(c api.Config, seed int) api.Model {
	m := made(c, seed)
	for _, one := range pointers(&m) {
		*one = roomy(*one)
	}
	for i := range m.Layers {
		l := &m.Layers[i]
		l.Up = append(append([][]int8{}, l.Up...), []int8{77})[:len(l.Up)]
		l.Down = append(append([][]int8{}, l.Down...), []int8{78})[:len(l.Down)]
	}
	m.Layers = append(append([]api.Layer{}, m.Layers...), api.Layer{Norm1: []int8{79}})[:len(m.Layers)]
	return m
}

// checkMarks holds a roomy model against what it was, and looks for its marks.
func checkMarks(t *testing.T, m, was api.Model) {
	t.Helper()
	if !same(m, was) {
		t.Errorf("what was handed in was changed: %+v", m)
	}
	for i, one := range pointers(&m) {
		if !marked(*one) {
			t.Errorf("the marks behind list %d were changed", i)
		}
	}
	for i, l := range m.Layers {
		up, down := l.Up[:len(l.Up)+1], l.Down[:len(l.Down)+1]
		if !slices.Equal(up[len(l.Up)], []int8{77}) || !slices.Equal(down[len(l.Down)], []int8{78}) {
			t.Errorf("the marks behind the networks of layer %d were changed", i)
		}
	}
	if more := m.Layers[:len(m.Layers)+1]; !slices.Equal(more[len(m.Layers)].Norm1, []int8{79}) {
		t.Errorf("the mark behind the layers was changed")
	}
}

// spoil changes all there is in a model, in the spare room behind its lists, too.
func spoil(m api.Model) {
	for _, one := range pointers(&m) {
		list := (*one)[:cap(*one)]
		for i := range list {
			list[i] ^= 85
		}
	}
	for i := range m.Layers {
		l := &m.Layers[i]
		for j := range l.Up {
			l.Up[j], l.Down[j] = nil, nil
		}
		*l = api.Layer{}
	}
}

// R4: what is handed to Load is neither changed nor kept.
func TestLoadMemory(t *testing.T) {
	for i, c := range []api.Config{small(), wide(), broad()} {
		w := start(t, 9)
		m, was := roomyModel(c, i), made(c, i)
		w.is(w.load("m", 1, m), api.OK)
		checkMarks(t, m, was)
		w.is(w.load("m", 1, m), api.VersionTaken)
		w.is(w.load("m", 0, m), api.Malformed)
		w.is(w.load("m", 2, made(broad(), 1)), api.OutOfMemory)
		checkMarks(t, m, was)
		spoil(m)
		w.check("spoiling what was handed in")
		if got, e := w.r.Model("m", 1); e != api.OK || !same(got, was) {
			t.Errorf("Model %+v, error %d", got, e)
		}
	}
}

// R4: what Model hands out is new each time: spoilt, it changes neither another answer nor what is kept.
func TestModelMemory(t *testing.T) {
	for i, c := range []api.Config{small(), wide(), broad()} {
		w := start(t, 9)
		m := made(c, i)
		w.is(w.load("m", 1, m), api.OK)
		one, _ := w.r.Model("m", 1)
		two, _ := w.r.Model("m", 1)
		spoil(one)
		if !same(two, m) {
			t.Errorf("two answers share memory")
		}
		w.check("spoiling what was handed out")
		// No two lists of an answer share any, in their spare room either.
		three, _ := w.r.Model("m", 1)
		all := pointers(&three)
		for j, list := range all {
			ahead := lists(three)
			grown := append(*list, 1, 2, 3, 4, 5, 6, 7, 8)
			for k := range grown {
				grown[k] ^= 85
			}
			for k, other := range lists(three) {
				if k != j && !slices.Equal(other, ahead[k]) {
					t.Fatalf("lists %d and %d share memory", j, k)
				}
			}
		}
		w.check("appending to what was handed out")
	}
}

// adapterPointers is where an adapter's lists stand, in the order of adapterLists.
func adapterPointers(d *api.Adapter) []*[]int8 {
	var all []*[]int8
	for i := range d.Layers {
		l := &d.Layers[i]
		all = append(all, &l.QA, &l.QB, &l.VA, &l.VB)
	}
	return all
}

// roomyAdapter is an adapter all of whose lists have marks behind them.
func roomyAdapter(c api.Config, rank, seed int) api.Adapter {
	d := madeAdapter(c, rank, 2, seed)
	for _, one := range adapterPointers(&d) {
		*one = roomy(*one)
	}
	d.Layers = append(append([]api.Graft{}, d.Layers...), api.Graft{QA: []int8{79}})[:len(d.Layers)]
	return d
}

func spoilAdapter(d api.Adapter) {
	for _, one := range adapterPointers(&d) {
		list := (*one)[:cap(*one)]
		for i := range list {
			list[i] ^= 85
		}
	}
	for i := range d.Layers {
		d.Layers[i] = api.Graft{}
	}
}

func checkAdapterMarks(t *testing.T, d, was api.Adapter) {
	t.Helper()
	if !sameAdapter(d, was) {
		t.Errorf("what was handed in was changed: %+v", d)
	}
	for i, one := range adapterPointers(&d) {
		if !marked(*one) {
			t.Errorf("the marks behind list %d were changed", i)
		}
	}
	if more := d.Layers[:len(d.Layers)+1]; !slices.Equal(more[len(d.Layers)].QA, []int8{79}) {
		t.Errorf("the mark behind the layers was changed")
	}
}

// R4: what is handed to Graft is neither changed nor kept, in the registry or on the shelf.
func TestGraftMemory(t *testing.T) {
	for i, c := range []api.Config{small(), wide(), broad()} {
		w := start(t, 14)
		w.is(w.load("m", 1, made(c, i)), api.OK)
		d, was := roomyAdapter(c, 3, i), madeAdapter(c, 3, 2, i)
		w.is(w.graft("x", "m", d), api.OK)
		checkAdapterMarks(t, d, was)
		w.is(w.graft("x", "m", d), api.VersionTaken)
		w.is(w.graft("y", "n", d), api.UnknownModel)
		w.is(w.graft("", "m", d), api.Malformed)
		checkAdapterMarks(t, d, was)
		spoilAdapter(d)
		w.check("spoiling what was handed in")
		w.pin("x")
		if got, e := w.r.Adapter("x", "m", 1); e != api.OK || !sameAdapter(got, was) {
			t.Errorf("Adapter %+v, error %d", got, e)
		}
	}
}

// R4: what Adapter hands out is new each time.
func TestAdapterMemory(t *testing.T) {
	for i, c := range []api.Config{small(), wide(), broad()} {
		w := start(t, 14)
		w.is(w.load("m", 1, made(c, i)), api.OK)
		d := madeAdapter(c, 2, 1, i)
		w.is(w.graft("x", "m", d), api.OK)
		w.pin("x")
		one, _ := w.r.Adapter("x", "m", 1)
		two, _ := w.r.Adapter("x", "m", 1)
		spoilAdapter(one)
		if !sameAdapter(two, d) {
			t.Errorf("two answers share memory")
		}
		w.check("spoiling what was handed out")
		three, _ := w.r.Adapter("x", "m", 1)
		for j, list := range adapterPointers(&three) {
			ahead := adapterLists(three)
			grown := append(*list, 1, 2, 3, 4, 5, 6, 7, 8)
			for k := range grown {
				grown[k] ^= 85
			}
			for k, other := range adapterLists(three) {
				if k != j && !slices.Equal(other, ahead[k]) {
					t.Fatalf("lists %d and %d share memory", j, k)
				}
			}
		}
		w.check("appending to what was handed out")
	}
}

// R3: an empty list that is nil and one of length 0 are the same.
func TestEmptyLists(t *testing.T) {
	w := start(t, 4)
	m := made(small(), 1)
	m.Layers[0].Router = nil
	w.is(w.load("m", 1, m), api.OK)
	m.Layers[0].Router = []int8{}
	w.is(w.load("m", 2, m), api.OK)
	one, _ := w.r.Model("m", 1)
	two, _ := w.r.Model("m", 2)
	if !same(one, two) {
		t.Errorf("%+v and %+v", one, two)
	}
}
