package registry

import (
	"reflect"
	"slices"
	"strconv"
	"strings"
	"testing"

	"aviary/api"
	"aviary/ckpt"
	"aviary/graft"
	"aviary/pool"
	"aviary/shelf"
)

const cells = 32

// seen is what is to be seen of a page.
type seen struct {
	tag    string
	owners int
	cells  [cells]int64
}

// edition is a version as it must be; one that was taken away is gone.
type edition struct {
	name           string
	number         int
	m              api.Model
	pages          []int
	held           int
	unloaded, gone bool
}

// piece is an adapter as it must be.
type piece struct {
	key  string
	of   *edition
	d    api.Adapter
	used int
}

// card is weights on the shelf as they must be; the time is that of the last Pin.
type card struct {
	name     string
	w        []int8
	held     int
	resident bool
	pages    []int
	time     int
}

// world is a pool, a shelf and a registry, and what all of them must be.
type world struct {
	t        *testing.T
	p        *pool.Pool
	s        *shelf.Shelf
	r        *Registry
	pages    []seen
	aside    int
	cards    []*card
	clock    int
	editions []*edition
	made     map[string]*edition // what was loaded or swapped to last, of each name
	pieces   []*piece
	names    []string
	numbers  []int
	keys     []string
}

// start is a world with nothing in it but free pages.
func start(t *testing.T, pages int) *world {
	t.Helper()
	p, e := pool.New(pages)
	if e != api.OK {
		t.Fatalf("a pool of %d pages: error %d", pages, e)
	}
	s := shelf.New(p)
	w := &world{t: t, p: p, s: s, r: New(p, s), pages: make([]seen, pages), made: map[string]*edition{}}
	w.names = []string{"", "zz", "M", "m.", strings.Repeat("z", 16), strings.Repeat("z", 17)}
	w.numbers = []int{-1, 0, 999999, 1000000}
	w.keys = []string{"", "zz", strings.Repeat("z", 17)}
	if w.r == nil {
		t.Fatalf("New: none")
	}
	w.check("New")
	return w
}

// knows has names, versions or keys asked for behind each call from now on.
func knows[T comparable](list *[]T, one T) {
	if !slices.Contains(*list, one) {
		*list = append(*list, one)
	}
}

// free is how many pages have no owner.
func (w *world) free() int {
	n := 0
	for _, one := range w.pages {
		if one.owners == 0 {
			n++
		}
	}
	return n
}

func (w *world) atHand() int {
	return w.free() - w.aside
}

// room is what the shelf's Room must answer.
func (w *world) room() int {
	n := w.atHand()
	for _, one := range w.cards {
		if one.resident && one.held == 0 {
			n += len(one.pages)
		}
	}
	return n
}

// need is how many pages so many weights take, counted one by one.
func need(weights int) int {
	n := 0
	for n*cells < weights {
		n++
	}
	return n
}

// layDown lays weights into the free pages with the least numbers.
func (w *world) layDown(tag string, weights []int8) []int {
	var pages []int
	for i := range need(len(weights)) {
		page := slices.IndexFunc(w.pages, func(p seen) bool { return p.owners == 0 })
		w.pages[page] = seen{tag: tag, owners: 1}
		for cell := range cells {
			if i*cells+cell < len(weights) {
				w.pages[page].cells[cell] = int64(weights[i*cells+cell])
			}
		}
		pages = append(pages, page)
	}
	return pages
}

// giveBack drops pages.
func (w *world) giveBack(pages []int) {
	for _, page := range pages {
		w.pages[page].owners--
		if w.pages[page].owners == 0 {
			w.pages[page] = seen{}
		}
	}
}

// find is a version that is there, or nil.
func (w *world) find(name string, number int) *edition {
	for _, one := range w.editions {
		if one.name == name && one.number == number && !one.gone {
			return one
		}
	}
	return nil
}

// now is the current version of a name, or nil.
func (w *world) now(name string) *edition {
	one := w.made[name]
	if one == nil || one.gone || one.unloaded {
		return nil
	}
	return one
}

func (w *world) piece(key string) *piece {
	for _, one := range w.pieces {
		if one.key == key {
			return one
		}
	}
	return nil
}

func (w *world) card(name string) *card {
	for _, one := range w.cards {
		if one.name == name {
			return one
		}
	}
	return nil
}

// loosest is the card that must be yielded first, or nil.
func (w *world) loosest() *card {
	var first *card
	for _, one := range w.cards {
		if one.resident && one.held == 0 && (first == nil || one.time < first.time) {
			first = one
		}
	}
	return first
}

func (w *world) letGo(one *card) {
	w.giveBack(one.pages)
	one.pages, one.resident = nil, false
}

// offShelf is what the shelf's Remove does and answers.
func (w *world) offShelf(name string) api.Errno {
	one := w.card(name)
	if one == nil {
		return api.ErrNone
	}
	if one.held > 0 {
		return api.ErrState
	}
	w.letGo(one)
	w.cards = slices.DeleteFunc(w.cards, func(c *card) bool { return c == one })
	return api.OK
}

// sweep takes a version away, if it is time.
func (w *world) sweep(one *edition) {
	if !one.unloaded || one.held != 0 {
		return
	}
	one.gone = true
	for _, p := range w.pieces {
		if p.of == one {
			w.offShelf(p.key)
		}
	}
	w.pieces = slices.DeleteFunc(w.pieces, func(p *piece) bool { return p.of == one })
	w.giveBack(one.pages)
}

// The following say what a call must answer, and make of the world what it must be then.

func (w *world) wantLoad(name string, number int, m api.Model) api.Errno {
	switch {
	case name == "" || len([]byte(name)) >= 17, number <= 0, number >= 1000000, ckpt.Check(m) != api.OK:
		return api.Malformed
	case w.find(name, number) != nil:
		return api.VersionTaken
	case w.room() < need(len(flat(m))):
		return api.OutOfMemory
	}
	for w.atHand() < need(len(flat(m))) {
		w.letGo(w.loosest())
	}
	one := &edition{name: name, number: number, m: copied(m)}
	one.pages = w.layDown("m"+name+"."+strconv.Itoa(number), flat(m))
	w.editions = append(w.editions, one)
	w.made[name] = one
	return api.OK
}

// wantServing is what a call must answer that asks for a version that is there, and not draining.
func (w *world) wantServing(name string, number int) (*edition, api.Errno) {
	one := w.find(name, number)
	if one == nil {
		return nil, api.UnknownModel
	}
	if one.unloaded {
		return nil, api.Draining
	}
	return one, api.OK
}

func (w *world) wantUnload(name string, number int) api.Errno {
	one, e := w.wantServing(name, number)
	if e == api.OK {
		one.unloaded = true
		w.sweep(one)
	}
	return e
}

func (w *world) wantSwap(name string, number int) api.Errno {
	one, e := w.wantServing(name, number)
	if e == api.OK {
		w.made[name] = one
	}
	return e
}

func (w *world) wantHold(name string, number int) api.Errno {
	one, e := w.wantServing(name, number)
	if e == api.OK {
		one.held++
	}
	return e
}

func (w *world) wantLet(name string, number int) api.Errno {
	one := w.find(name, number)
	if one == nil {
		return api.UnknownModel
	}
	if one.held == 0 {
		return api.ErrState
	}
	one.held--
	w.sweep(one)
	return api.OK
}

func (w *world) wantGraft(key, name string, d api.Adapter) api.Errno {
	of := w.now(name)
	switch {
	case key == "" || len([]byte(key)) >= 17:
		return api.Malformed
	case of == nil:
		return api.UnknownModel
	case w.piece(key) != nil || w.card(key) != nil:
		return api.VersionTaken
	case graft.Check(d, of.m.Config) != api.OK:
		return api.Malformed
	}
	w.pieces = append(w.pieces, &piece{key: key, of: of, d: copiedAdapter(d)})
	w.cards = append(w.cards, &card{name: key, w: flatAdapter(d)})
	return api.OK
}

func (w *world) wantUse(key string, by int) api.Errno {
	one := w.piece(key)
	if one == nil {
		return api.UnknownModel
	}
	// Ends of 64 bits are kept apart from the sum.
	if by < -2000000 || by > 2000000 || one.used+by < 0 || one.used+by > 1000000 {
		return api.ErrRange
	}
	one.used += by
	return api.OK
}

func (w *world) wantRemove(key string) api.Errno {
	one := w.piece(key)
	if one == nil {
		return api.UnknownModel
	}
	if one.used != 0 {
		return api.Draining
	}
	if e := w.offShelf(key); e != api.OK {
		return e
	}
	w.pieces = slices.DeleteFunc(w.pieces, func(p *piece) bool { return p == one })
	return api.OK
}

// The following hold what is to be seen against what must be.

func (w *world) checkPool(behind string) {
	w.t.Helper()
	all, free, aside := w.p.Sizes()
	if all != len(w.pages) || free != w.free() || aside != w.aside {
		w.t.Fatalf("behind %s: sizes %d, %d, %d; want %d, %d, %d", behind, all, free, aside, len(w.pages), w.free(), w.aside)
	}
	for i, want := range w.pages {
		got := seen{tag: w.p.Tag(i), owners: w.p.Owners(i)}
		for cell := range cells {
			got.cells[cell], _ = w.p.Get(i, cell)
		}
		if got != want {
			w.t.Fatalf("behind %s: page %d is %v; want %v", behind, i, got, want)
		}
	}
}

func (w *world) checkShelf(behind string) {
	w.t.Helper()
	resident := slices.DeleteFunc(slices.Clone(w.cards), func(c *card) bool { return !c.resident })
	slices.SortFunc(resident, func(a, b *card) int { return a.time - b.time })
	var names []string
	for _, one := range resident {
		names = append(names, one.name)
	}
	if got := w.s.Resident(); !slices.Equal(got, names) {
		w.t.Fatalf("behind %s: resident %q; want %q", behind, got, names)
	}
	for _, key := range w.keys {
		pins := -1
		one := w.card(key)
		if one != nil {
			pins = one.held
		}
		if got := w.s.Pins(key); got != pins {
			w.t.Fatalf("behind %s: Pins(%.20q) %d; want %d", behind, key, got, pins)
		}
		if one != nil && one.resident {
			if got, e := w.s.Read(key); e != api.OK || !slices.Equal(got, one.w) {
				w.t.Fatalf("behind %s: Read(%.20q) %v, error %d; want %v", behind, key, got, e, one.w)
			}
		}
	}
}

func (w *world) checkName(behind, name string) {
	w.t.Helper()
	number, ok := w.r.Current(name)
	if want := w.now(name); want == nil && (number != 0 || ok) || want != nil && (number != want.number || !ok) {
		w.t.Fatalf("behind %s: Current(%.20q) %d, %t; want %+v", behind, name, number, ok, want)
	}
	drains := false
	for _, number := range w.numbers {
		one := w.find(name, number)
		draining := one != nil && one.unloaded
		drains = drains || draining
		if got := w.r.Draining(name, number); got != draining {
			w.t.Fatalf("behind %s: Draining(%.20q, %d) %t; want %t", behind, name, number, got, draining)
		}
		w.checkModel(behind, name, number)
		w.checkAdapters(behind, name, number)
	}
	if got := w.r.Drains(name); got != drains {
		w.t.Fatalf("behind %s: Drains(%.20q) %t; want %t", behind, name, got, drains)
	}
}

func (w *world) checkModel(behind, name string, number int) {
	w.t.Helper()
	want, we := api.Model{}, api.UnknownModel
	if one := w.find(name, number); one != nil {
		want, we = one.m, api.OK
	}
	got, e := w.r.Model(name, number)
	if e != we || !same(got, want) {
		w.t.Fatalf("behind %s: Model(%.20q, %d) %+v, error %d; want %+v, error %d", behind, name, number, got, e, want, we)
	}
}

func (w *world) checkAdapters(behind, name string, number int) {
	w.t.Helper()
	for _, key := range w.keys {
		want, we := api.Adapter{}, api.UnknownModel
		if one := w.piece(key); one != nil && one.of.name == name && one.of.number == number {
			want, we = one.d, api.OK
		}
		got, e := w.r.Adapter(key, name, number)
		if e != we || !sameAdapter(got, want) {
			w.t.Fatalf("behind %s: Adapter(%.20q, %.20q, %d) %+v, error %d; want %+v, error %d", behind, key, name, number, got, e, want, we)
		}
	}
}

// checkUsed finds by how many an adapter is used: one less, or one more, is as far as Use can go.
func (w *world) checkUsed(behind string) {
	w.t.Helper()
	for _, one := range w.pieces {
		if e := w.r.Use(one.key, -one.used-1); e != api.ErrRange {
			w.t.Fatalf("behind %s: Use(%q, %d) of one that is used by %d: error %d", behind, one.key, -one.used-1, one.used, e)
		}
		if e := w.r.Use(one.key, 1000001-one.used); e != api.ErrRange {
			w.t.Fatalf("behind %s: Use(%q, %d) of one that is used by %d: error %d", behind, one.key, 1000001-one.used, one.used, e)
		}
	}
}

// check holds the pool, the shelf and the registry against what they must be.
func (w *world) check(behind string) {
	w.t.Helper()
	w.checkPool(behind)
	w.checkShelf(behind)
	pages := 0
	for _, one := range w.editions {
		tag := "m" + one.name + "." + strconv.Itoa(one.number)
		if one.gone && w.find(one.name, one.number) == nil && w.p.Count(tag) != 0 {
			w.t.Fatalf("behind %s: %d pages have the tag %q", behind, w.p.Count(tag), tag)
		}
		if !one.gone {
			pages += len(one.pages)
		}
	}
	if got := w.r.Pages(); got != pages {
		w.t.Fatalf("behind %s: Pages %d; want %d", behind, got, pages)
	}
	for _, name := range w.names {
		w.checkName(behind, name)
	}
	w.checkUsed(behind)
	w.checkPool("what was asked behind " + behind)
	w.checkShelf("what was asked behind " + behind)
}

// told holds an answer against what it must be, and then all there is.
func (w *world) told(call string, got, want api.Errno) api.Errno {
	w.t.Helper()
	if got != want {
		w.t.Fatalf("%s: error %d; want error %d", call, got, want)
	}
	w.check(call)
	return got
}

// called is a call in writing.
func called(call, a string, b int) string {
	return call + "(" + a[:min(len(a), 20)] + ", " + strconv.Itoa(b) + ")"
}

func (w *world) load(name string, number int, m api.Model) api.Errno {
	w.t.Helper()
	knows(&w.names, name)
	knows(&w.numbers, number)
	want := w.wantLoad(name, number, m)
	return w.told(called("Load", name, number), w.r.Load(name, number, m), want)
}

func (w *world) unload(name string, number int) api.Errno {
	w.t.Helper()
	want := w.wantUnload(name, number)
	return w.told(called("Unload", name, number), w.r.Unload(name, number), want)
}

func (w *world) swap(name string, number int) api.Errno {
	w.t.Helper()
	want := w.wantSwap(name, number)
	return w.told(called("Swap", name, number), w.r.Swap(name, number), want)
}

func (w *world) hold(name string, number int) api.Errno {
	w.t.Helper()
	want := w.wantHold(name, number)
	return w.told(called("Hold", name, number), w.r.Hold(name, number), want)
}

func (w *world) let(name string, number int) api.Errno {
	w.t.Helper()
	want := w.wantLet(name, number)
	return w.told(called("Let", name, number), w.r.Let(name, number), want)
}

func (w *world) graft(key, name string, d api.Adapter) api.Errno {
	w.t.Helper()
	knows(&w.keys, key)
	want := w.wantGraft(key, name, d)
	return w.told("Graft("+key[:min(len(key), 20)]+", "+name[:min(len(name), 20)]+")", w.r.Graft(key, name, d), want)
}

func (w *world) use(key string, by int) api.Errno {
	w.t.Helper()
	want := w.wantUse(key, by)
	return w.told(called("Use", key, by), w.r.Use(key, by), want)
}

func (w *world) remove(key string) api.Errno {
	w.t.Helper()
	want := w.wantRemove(key)
	return w.told("Remove("+key[:min(len(key), 20)]+")", w.r.Remove(key), want)
}

// The following are what others do with the shelf and the pool; the test sees to it that it is not refused.

func (w *world) put(name string, weights []int8) {
	w.t.Helper()
	knows(&w.keys, name)
	w.cards = append(w.cards, &card{name: name, w: weights})
	w.told("the shelf's Put("+name+")", w.s.Put(name, weights), api.OK)
}

func (w *world) pin(name string) {
	w.t.Helper()
	one := w.card(name)
	if !one.resident {
		for w.atHand() < need(len(one.w)) {
			w.letGo(w.loosest())
		}
		one.pages, one.resident = w.layDown("+"+name, one.w), true
	}
	one.held++
	w.clock++
	one.time = w.clock
	w.told("the shelf's Pin("+name+")", w.s.Pin(name), api.OK)
}

func (w *world) unpin(name string) {
	w.t.Helper()
	w.card(name).held--
	w.told("the shelf's Unpin("+name+")", w.s.Unpin(name), api.OK)
}

// loose lays weights of so many pages on the shelf and brings them in, without holding them.
func (w *world) loose(name string, pages int) {
	w.t.Helper()
	w.put(name, weights(pages*cells-5, len(w.cards)))
	w.pin(name)
	w.unpin(name)
}

func (w *world) take(tag string, pages int) {
	w.t.Helper()
	w.layDown(tag, make([]int8, pages*cells))
	_, e := w.p.Take(tag, pages)
	w.told("the pool's Take("+tag+")", e, api.OK)
}

func (w *world) drop(page int) {
	w.t.Helper()
	w.giveBack([]int{page})
	w.told("the pool's Drop("+strconv.Itoa(page)+")", w.p.Drop(page), api.OK)
}

func (w *world) reserve(pages int) {
	w.t.Helper()
	w.aside += pages
	w.told("the pool's Reserve("+strconv.Itoa(pages)+")", w.p.Reserve(pages), api.OK)
}

func (w *world) unreserve(pages int) {
	w.t.Helper()
	w.aside -= pages
	w.told("the pool's Unreserve("+strconv.Itoa(pages)+")", w.p.Unreserve(pages), api.OK)
}

// is holds an answer against the one that stands in the test.
func (w *world) is(got, want api.Errno) {
	w.t.Helper()
	if got != want {
		w.t.Fatalf("error %d; want error %d", got, want)
	}
}

// resident looks what is resident.
func (w *world) resident(names string) {
	w.t.Helper()
	if got := strings.Join(w.s.Resident(), " "); got != names {
		w.t.Fatalf("resident are %q; want %q", got, names)
	}
}

// current looks what is current of a name; 0: nothing.
func (w *world) current(name string, number int) {
	w.t.Helper()
	if got, ok := w.r.Current(name); got != number || ok != (number != 0) {
		w.t.Fatalf("current of %q is %d, %t; want %d", name, got, ok, number)
	}
}

// has looks how many pages have a tag.
func (w *world) has(tag string, pages int) {
	w.t.Helper()
	if got := w.p.Count(tag); got != pages {
		w.t.Fatalf("%d pages have the tag %q; want %d", got, tag, pages)
	}
}

// same tells whether two models are the same, with empty lists that may be nil.
func same(a, b api.Model) bool {
	return a.Config == b.Config && reflect.DeepEqual(lists(a), lists(b)) && len(a.Layers) == len(b.Layers)
}

// sameAdapter tells the same of adapters.
func sameAdapter(a, b api.Adapter) bool {
	return a.Rank == b.Rank && a.Shift == b.Shift && len(a.Layers) == len(b.Layers) && reflect.DeepEqual(adapterLists(a), adapterLists(b))
}
