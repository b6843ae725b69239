package registry

import (
	"math"
	"strconv"
	"strings"
	"testing"

	"aviary/api"
)

// 24.3: keys from 1 to 16 bytes, of whatever bytes.
func TestGraftKeys(t *testing.T) {
	w := start(t, 4)
	w.is(w.load("m", 1, made(small(), 1)), api.OK)
	d := madeAdapter(small(), 1, 0, 1)
	for _, x := range []struct {
		key  string
		want api.Errno
	}{
		{"", api.Malformed}, {"a", api.OK}, {strings.Repeat("a", 15), api.OK}, {strings.Repeat("a", 16), api.OK}, {strings.Repeat("a", 17), api.Malformed}, {strings.Repeat("a", 70000), api.Malformed},
		{"\x00", api.OK}, {"\xff\xfe", api.OK}, {" ", api.OK}, {"-", api.OK}, {"m", api.OK}, {"mm.1", api.OK}, {"+a", api.OK}, {strings.Repeat("é", 8), api.OK}, {strings.Repeat("é", 9), api.Malformed},
	} {
		if e := w.graft(x.key, "m", d); e != x.want {
			t.Errorf("key %.20q: error %d, want %d", x.key, e, x.want)
		}
		if x.want == api.OK && w.s.Pins(x.key) != 0 {
			t.Errorf("key %.20q is not on the shelf", x.key)
		}
	}
}

// 24.3: UnknownModel of a name without a current version: of none, of one whose current one was unloaded, of one that is draining.
func TestGraftUnknown(t *testing.T) {
	w := start(t, 8)
	d := madeAdapter(small(), 1, 0, 1)
	for _, name := range []string{"", "m", "zz", strings.Repeat("m", 17), strings.Repeat("m", 70000)} {
		w.is(w.graft("x", name, d), api.UnknownModel)
	}
	w.is(w.load("m", 1, made(small(), 1)), api.OK)
	w.is(w.load("m", 2, made(small(), 2)), api.OK)
	w.is(w.graft("x", "n", d), api.UnknownModel)
	w.is(w.hold("m", 2), api.OK)
	w.is(w.unload("m", 2), api.OK)
	w.is(w.graft("x", "m", d), api.UnknownModel)
	w.is(w.swap("m", 1), api.OK)
	w.is(w.graft("x", "m", d), api.OK)
	if _, e := w.r.Adapter("x", "m", 1); e != api.OK {
		t.Errorf("Adapter: error %d", e)
	}
}

// 24.3: VersionTaken of a key that is an adapter's, of this version or another, and of one on the shelf that is no adapter's.
func TestGraftTaken(t *testing.T) {
	w := start(t, 20)
	d := madeAdapter(small(), 2, 3, 1)
	w.is(w.load("m", 1, made(small(), 1)), api.OK)
	w.is(w.graft("x", "m", d), api.OK)
	w.is(w.graft("x", "m", madeAdapter(small(), 1, 0, 2)), api.VersionTaken)
	w.is(w.load("m", 2, made(small(), 2)), api.OK)
	w.is(w.graft("x", "m", d), api.VersionTaken)
	w.is(w.load("n", 1, made(small(), 3)), api.OK)
	w.is(w.graft("x", "n", d), api.VersionTaken)
	w.put("y", weights(3, 1))
	w.is(w.graft("y", "n", d), api.VersionTaken)
	w.loose("v", 1)
	w.is(w.graft("v", "n", d), api.VersionTaken)
	w.is(w.use("y", 0), api.UnknownModel)
	w.is(w.remove("y"), api.UnknownModel)
	w.put("empty", nil)
	w.is(w.graft("empty", "n", d), api.VersionTaken)
	// Somebody else took it from the shelf: it is an adapter nevertheless, till its version is taken away.
	if e := w.s.Remove("x"); e != api.OK {
		t.Fatalf("the shelf's Remove: error %d", e)
	}
	w.offShelf("x")
	w.check("the shelf's Remove")
	w.is(w.graft("x", "m", d), api.VersionTaken)
	w.is(w.remove("x"), api.ErrNone)
	w.is(w.unload("m", 1), api.OK)
	w.is(w.graft("x", "m", d), api.OK)
	w.is(w.remove("x"), api.OK)
	w.is(w.graft("x", "n", d), api.OK)
}

// wrongAdapters is adapters that are none for the configuration broad, one for each reason.
func wrongAdapters() []api.Adapter {
	all := []api.Adapter{{}, {Rank: 1}, {Layers: make([]api.Graft, 2)}, madeAdapter(wide(), 1, 0, 1), madeAdapter(small(), 1, 0, 1)}
	for _, x := range [][2]int{{0, 0}, {5, 0}, {1, -1}, {1, 9}, {4, math.MaxInt64}, {2, math.MinInt64}} {
		all = append(all, madeAdapter(broad(), x[0], x[1], 1))
	}
	for _, rank := range []int{-1, math.MaxInt64, math.MinInt64} {
		d := madeAdapter(broad(), 1, 0, 1)
		d.Rank = rank
		all = append(all, d)
	}
	for i := range 8 {
		for _, by := range []int{-1, 1} {
			d := madeAdapter(broad(), 2, 0, 1)
			l := &d.Layers[i/4]
			one := []*[]int8{&l.QA, &l.QB, &l.VA, &l.VB}[i%4]
			*one = append(*one, 0)[:len(*one)+by]
			all = append(all, d)
		}
	}
	more, fewer := madeAdapter(broad(), 2, 0, 1), madeAdapter(broad(), 2, 0, 1)
	more.Layers = append(more.Layers, more.Layers[0])
	fewer.Layers = fewer.Layers[:1]
	return append(all, more, fewer)
}

// 24.3: an adapter that is not right for the current version's configuration is refused, for each reason.
func TestGraftWrong(t *testing.T) {
	w := start(t, 16)
	w.is(w.load("m", 1, made(broad(), 1)), api.OK)
	for i, d := range wrongAdapters() {
		if e := w.graft("x", "m", d); e != api.Malformed {
			t.Errorf("adapter %d: error %d", i, e)
		}
	}
	for rank := 1; rank <= 4; rank++ {
		for _, shift := range []int{0, 1, 8} {
			w.is(w.graft("r"+strconv.Itoa(rank*10+shift), "m", madeAdapter(broad(), rank, shift, rank)), api.OK)
		}
	}
	// It is the current version's configuration that counts.
	w.is(w.load("m", 2, made(wide(), 2)), api.OK)
	w.is(w.graft("x", "m", madeAdapter(broad(), 1, 0, 1)), api.Malformed)
	w.is(w.graft("x", "m", madeAdapter(wide(), 1, 0, 1)), api.OK)
	w.is(w.swap("m", 1), api.OK)
	w.is(w.graft("y", "m", madeAdapter(wide(), 1, 0, 1)), api.Malformed)
	w.is(w.graft("y", "m", madeAdapter(broad(), 1, 0, 1)), api.OK)
}

// 24.3, R2: of two errors of Graft the one that is named first.
func TestGraftOrder(t *testing.T) {
	w := start(t, 6)
	good, bad := madeAdapter(small(), 1, 0, 1), api.Adapter{}
	w.is(w.load("m", 1, made(small(), 1)), api.OK)
	w.is(w.graft("x", "m", good), api.OK)
	w.is(w.graft("", "n", good), api.Malformed) // ahead of UnknownModel
	w.is(w.graft("", "m", bad), api.Malformed)
	w.is(w.graft("x", "n", good), api.UnknownModel)  // ahead of VersionTaken
	w.is(w.graft("new", "n", bad), api.UnknownModel) // ahead of Malformed of the adapter
	w.is(w.graft("x", "n", bad), api.UnknownModel)   // ahead of both
	w.is(w.graft("x", "m", bad), api.VersionTaken)   // ahead of Malformed of the adapter
	w.put("shelved", weights(1, 1))
	w.is(w.graft("shelved", "m", bad), api.VersionTaken)
	w.is(w.graft("shelved", "n", bad), api.UnknownModel)
	w.is(w.graft("new", "m", bad), api.Malformed)
}

// 24.3: Graft asks for no page, so that room in the pool does not matter.
func TestGraftWithoutRoom(t *testing.T) {
	w := start(t, 8)
	w.is(w.load("m", 1, made(broad(), 1)), api.OK)
	w.is(w.graft("x", "m", madeAdapter(broad(), 4, 0, 1)), api.OK)
	w.resident("")
	w = start(t, 20)
	w.is(w.load("m", 1, made(broad(), 1)), api.OK)
	w.is(w.graft("x", "m", madeAdapter(broad(), 4, 0, 1)), api.OK)
	w.resident("")
	w.pin("x")
	w.has("+x", 4)
}

// 24.3: Adapter is of the version that was current when it was laid in, and of no other.
func TestAdapterOfVersion(t *testing.T) {
	w := start(t, 20)
	d := madeAdapter(small(), 2, 5, 1)
	w.is(w.load("m", 1, made(small(), 1)), api.OK)
	w.is(w.load("n", 1, made(small(), 2)), api.OK)
	w.is(w.graft("x", "m", d), api.OK)
	w.is(w.load("m", 2, made(small(), 3)), api.OK)
	for _, x := range []struct {
		key, name string
		version   int
		want      api.Errno
	}{
		{"x", "m", 1, api.OK}, {"x", "m", 2, api.UnknownModel}, {"x", "n", 1, api.UnknownModel}, {"x", "m", 3, api.UnknownModel}, {"y", "m", 1, api.UnknownModel},
		{"", "m", 1, api.UnknownModel}, {"", "", 0, api.UnknownModel}, {"x", "", 1, api.UnknownModel}, {"X", "m", 1, api.UnknownModel}, {"x", "m", math.MinInt64, api.UnknownModel},
		{"+x", "m", 1, api.UnknownModel}, {strings.Repeat("x", 70000), "m", 1, api.UnknownModel},
	} {
		got, e := w.r.Adapter(x.key, x.name, x.version)
		want := api.Adapter{}
		if x.want == api.OK {
			want = d
		}
		if e != x.want || !sameAdapter(got, want) {
			t.Errorf("Adapter(%.20q, %q, %d): %+v, error %d", x.key, x.name, x.version, got, e)
		}
	}
	// It is that version's behind Swap, and while that one is draining, whether its weights are in pages or not.
	w.is(w.swap("m", 1), api.OK)
	w.is(w.hold("m", 1), api.OK)
	w.is(w.unload("m", 1), api.OK)
	w.pin("x")
	if got, e := w.r.Adapter("x", "m", 1); e != api.OK || !sameAdapter(got, d) {
		t.Errorf("Adapter: %+v, error %d", got, e)
	}
	w.is(w.use("x", 1), api.OK)
	w.unpin("x")
	w.is(w.use("x", -1), api.OK)
	w.is(w.remove("x"), api.OK)
	if got, e := w.r.Adapter("x", "m", 1); e != api.UnknownModel || !sameAdapter(got, api.Adapter{}) {
		t.Errorf("Adapter: %+v, error %d", got, e)
	}
	w.is(w.let("m", 1), api.OK)
}

// 24.3: an adapter of each rank and shift, with one layer and with two, is answered as it was laid in.
func TestAdapterKinds(t *testing.T) {
	for i, c := range []api.Config{small(), wide(), broad(), {Dim: 8, Heads: 4, Layers: 2, Vocab: 2, Hidden: 1}, {Dim: 6, Heads: 3, Layers: 1, Vocab: 2, Hidden: 1}} {
		w := start(t, 40)
		w.is(w.load("m", 1, made(c, i)), api.OK)
		for rank := 1; rank <= 4; rank++ {
			for shift := 0; shift <= 8; shift++ {
				d := madeAdapter(c, rank, shift, rank*9+shift)
				w.is(w.graft("x", "m", d), api.OK)
				if got, e := w.r.Adapter("x", "m", 1); e != api.OK || !sameAdapter(got, d) {
					t.Fatalf("%+v, rank %d, shift %d: %+v, error %d", c, rank, shift, got, e)
				}
				w.pin("x")
				w.has("+x", need(c.Layers*4*rank*c.Dim))
				w.unpin("x")
				w.is(w.remove("x"), api.OK)
			}
		}
	}
}

// 24.3: Use from 0 to 1000000, and no further, with the least and the greatest numbers, too.
func TestUse(t *testing.T) {
	w := start(t, 4)
	w.is(w.load("m", 1, made(small(), 1)), api.OK)
	w.is(w.graft("x", "m", madeAdapter(small(), 1, 0, 1)), api.OK)
	for _, x := range []struct {
		by   int
		want api.Errno
	}{
		{0, api.OK}, {-1, api.ErrRange}, {math.MinInt64, api.ErrRange}, {math.MaxInt64, api.ErrRange}, {1000001, api.ErrRange}, {1, api.OK}, // used by 1
		{-2, api.ErrRange}, {1000000, api.ErrRange}, {math.MaxInt64, api.ErrRange}, {math.MinInt64, api.ErrRange}, {math.MinInt64 + 1, api.ErrRange}, {0, api.OK},
		{999999, api.OK}, {1, api.ErrRange}, {0, api.OK}, {math.MaxInt64, api.ErrRange}, {math.MinInt64, api.ErrRange}, {-1000001, api.ErrRange}, // used by 1000000
		{-400000, api.OK}, {400001, api.ErrRange}, {-600001, api.ErrRange}, {1 << 32, api.ErrRange}, {-1 << 32, api.ErrRange}, {400000, api.OK}, {-1000000, api.OK}, // used by 0
		{1000000, api.OK}, {-999999, api.OK}, {-1, api.OK}, {-1, api.ErrRange},
	} {
		if e := w.use("x", x.by); e != x.want {
			t.Errorf("Use by %d: error %d, want %d", x.by, e, x.want)
		}
	}
	for _, key := range []string{"", "y", "X", "+x", strings.Repeat("x", 17), strings.Repeat("x", 70000)} {
		for _, by := range []int{0, 1, -1, math.MinInt64, math.MaxInt64} {
			w.is(w.use(key, by), api.UnknownModel)
		}
	}
}

// 24.3: Remove of one that is used, of one that is held on the shelf, of one that is both, of one that is resident and of one that is not.
func TestRemove(t *testing.T) {
	w := start(t, 8)
	d := madeAdapter(small(), 1, 0, 1)
	w.is(w.load("m", 1, made(small(), 1)), api.OK)
	for _, key := range []string{"a", "b", "c"} {
		w.is(w.graft(key, "m", d), api.OK)
	}
	w.is(w.remove("d"), api.UnknownModel)
	w.is(w.remove(""), api.UnknownModel)
	w.is(w.remove(strings.Repeat("a", 70000)), api.UnknownModel)
	w.is(w.use("a", 2), api.OK)
	w.is(w.remove("a"), api.Draining)
	w.pin("a")
	w.is(w.remove("a"), api.Draining) // ahead of the shelf's error
	w.is(w.use("a", -1), api.OK)
	w.is(w.remove("a"), api.Draining)
	w.is(w.use("a", -1), api.OK)
	w.is(w.remove("a"), api.ErrState)
	if _, e := w.r.Adapter("a", "m", 1); e != api.OK {
		t.Errorf("Adapter: error %d", e)
	}
	w.unpin("a")
	w.resident("a")
	w.is(w.remove("a"), api.OK)
	w.resident("")
	w.is(w.remove("a"), api.UnknownModel)
	w.is(w.remove("b"), api.OK) // it was never resident
	if w.s.Pins("b") != -1 {
		t.Errorf("it is still on the shelf")
	}
	// The same key begins anew, and may belong to another version.
	w.is(w.load("m", 2, made(small(), 2)), api.OK)
	w.is(w.graft("a", "m", madeAdapter(small(), 3, 1, 9)), api.OK)
	w.is(w.use("a", -1), api.ErrRange)
	w.is(w.unload("m", 1), api.OK) // c goes with it, and a does not
	w.is(w.remove("c"), api.UnknownModel)
	w.is(w.remove("a"), api.OK)
}

// 24.3: what was removed is not taken away a second time with its version, when something else has its key by then.
func TestRemovedKeyOfOthers(t *testing.T) {
	w := start(t, 8)
	d := madeAdapter(small(), 1, 0, 1)
	w.is(w.load("m", 1, made(small(), 1)), api.OK)
	w.is(w.graft("a", "m", d), api.OK)
	w.is(w.graft("b", "m", d), api.OK)
	w.is(w.graft("c", "m", d), api.OK)
	w.is(w.remove("b"), api.OK)
	w.is(w.load("m", 2, made(small(), 2)), api.OK)
	w.is(w.graft("b", "m", d), api.OK)
	w.is(w.remove("a"), api.OK)
	w.put("a", weights(40, 1))
	w.is(w.unload("m", 1), api.OK)
	if w.s.Pins("a") != 0 || w.s.Pins("b") != 0 || w.s.Pins("c") != -1 {
		t.Errorf("Pins %d, %d, %d", w.s.Pins("a"), w.s.Pins("b"), w.s.Pins("c"))
	}
	if _, e := w.r.Adapter("b", "m", 2); e != api.OK {
		t.Errorf("Adapter: error %d", e)
	}
}

// 24.3: an adapter that is used goes with its version all the same.
func TestUsedAdapterGoes(t *testing.T) {
	w := start(t, 8)
	w.is(w.load("m", 1, made(small(), 1)), api.OK)
	w.is(w.graft("a", "m", madeAdapter(small(), 1, 0, 1)), api.OK)
	w.is(w.use("a", 1000000), api.OK)
	w.is(w.unload("m", 1), api.OK)
	w.is(w.use("a", -1), api.UnknownModel)
	if w.s.Pins("a") != -1 {
		t.Errorf("it is still on the shelf")
	}
}
