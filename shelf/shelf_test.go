package shelf

import (
	"math"
	"slices"
	"strconv"
	"strings"
	"testing"

	"aviary/api"
	"aviary/pool"
)

const cells = 32

// seen is what is to be seen of a page.
type seen struct {
	tag    string
	owners int
	cells  [cells]int64
}

// view is all that is to be seen of a pool.
type view struct {
	all, free, aside int
	pages            []seen
}

// look is what the pool's own calls tell of it.
func look(p *pool.Pool) view {
	var v view
	v.all, v.free, v.aside = p.Sizes()
	for i := range v.all {
		one := seen{tag: p.Tag(i), owners: p.Owners(i)}
		for cell := range cells {
			one.cells[cell], _ = p.Get(i, cell)
		}
		v.pages = append(v.pages, one)
	}
	return v
}

// compare tells the first thing in which the pool is not what it must be.
func compare(t *testing.T, behind string, p *pool.Pool, want view) {
	t.Helper()
	got := look(p)
	if got.all != want.all || got.free != want.free || got.aside != want.aside {
		t.Fatalf("behind %s: sizes %d, %d, %d; want %d, %d, %d", behind, got.all, got.free, got.aside, want.all, want.free, want.aside)
	}
	for i := range want.pages {
		if got.pages[i] != want.pages[i] {
			t.Fatalf("behind %s: page %d is %v; want %v", behind, i, got.pages[i], want.pages[i])
		}
	}
}

// card is weights on the shelf as they must be; the time is that of the last Pin.
type card struct {
	name     string
	w        []int8
	held     int
	resident bool
	pages    []int
	time     int
}

// need is how many pages the weights take, counted one by one.
func (c *card) need() int {
	n := 0
	for n*cells < len(c.w) {
		n++
	}
	return n
}

// desk is a pool and a shelf on it, each beside what it must be.
type desk struct {
	t     *testing.T
	p     *pool.Pool
	s     *Shelf
	v     view
	cards []*card
	clock int
}

// start is a desk with a new pool and a new shelf.
func start(t *testing.T, pages int) *desk {
	t.Helper()
	p, e := pool.New(pages)
	if e != api.OK {
		t.Fatalf("a pool of %d pages: error %d", pages, e)
	}
	return startOn(t, p)
}

// startOn is a desk with a new shelf on a pool.
func startOn(t *testing.T, p *pool.Pool) *desk {
	t.Helper()
	d := &desk{t: t, p: p, v: look(p), s: New(p)}
	if d.s == nil {
		t.Fatalf("New: none")
	}
	d.check("New")
	return d
}

// card is the card of a name, or nil.
func (d *desk) card(name string) *card {
	for _, one := range d.cards {
		if one.name == name {
			return one
		}
	}
	return nil
}

// atHand is how many pages are at hand.
func (d *desk) atHand() int {
	return d.v.free - d.v.aside
}

// room is what Room must answer.
func (d *desk) room() int {
	n := d.atHand()
	for _, one := range d.cards {
		if one.resident && one.held == 0 {
			n += len(one.pages)
		}
	}
	return n
}

// resident is what Resident must answer.
func (d *desk) resident() []string {
	var list []*card
	for _, one := range d.cards {
		if one.resident {
			list = append(list, one)
		}
	}
	slices.SortFunc(list, func(a, b *card) int { return a.time - b.time })
	var names []string
	for _, one := range list {
		names = append(names, one.name)
	}
	return names
}

// letGo makes weights not resident.
func (d *desk) letGo(one *card) {
	for _, page := range one.pages {
		d.v.pages[page].owners--
		if d.v.pages[page].owners == 0 {
			d.v.pages[page] = seen{}
			d.v.free++
		}
	}
	one.pages, one.resident = nil, false
}

// oldest is the one that must go first, or nil.
func (d *desk) oldest() *card {
	var first *card
	for _, one := range d.cards {
		if one.resident && one.held == 0 && (first == nil || one.time < first.time) {
			first = one
		}
	}
	return first
}

// layDown places weights into the free pages with the least numbers.
func (d *desk) layDown(one *card) {
	for i := range one.need() {
		page := slices.IndexFunc(d.v.pages, func(p seen) bool { return p.owners == 0 })
		d.v.pages[page] = seen{tag: "+" + one.name, owners: 1}
		for cell := range cells {
			if i*cells+cell < len(one.w) {
				d.v.pages[page].cells[cell] = int64(one.w[i*cells+cell])
			}
		}
		d.v.free--
		one.pages = append(one.pages, page)
	}
	one.resident = true
}

// wantPut is what Put must answer, and makes of the desk what it must be then; the other ones do the same of their calls.
func (d *desk) wantPut(name string, w []int8) api.Errno {
	switch {
	case name == "" || len([]byte(name)) >= 17:
		return api.ErrRange
	case d.card(name) != nil:
		return api.ErrTwice
	}
	d.cards = append(d.cards, &card{name: name, w: append([]int8(nil), w...)})
	return api.OK
}

func (d *desk) wantRemove(name string) api.Errno {
	one := d.card(name)
	if one == nil {
		return api.ErrNone
	}
	if one.held != 0 {
		return api.ErrState
	}
	d.letGo(one)
	d.cards = slices.DeleteFunc(d.cards, func(c *card) bool { return c == one })
	return api.OK
}

func (d *desk) wantPin(name string) api.Errno {
	one := d.card(name)
	if one == nil {
		return api.ErrNone
	}
	if !one.resident {
		if d.room() < one.need() {
			return api.OutOfMemory
		}
		for d.atHand() < one.need() {
			d.letGo(d.oldest())
		}
		d.layDown(one)
	}
	one.held++
	d.clock++
	one.time = d.clock
	return api.OK
}

func (d *desk) wantUnpin(name string) api.Errno {
	one := d.card(name)
	if one == nil {
		return api.ErrNone
	}
	if one.held == 0 {
		return api.ErrState
	}
	one.held--
	return api.OK
}

func (d *desk) wantYield() bool {
	one := d.oldest()
	if one == nil {
		return false
	}
	d.letGo(one)
	return true
}

// wantRead is what Read must answer.
func (d *desk) wantRead(name string) ([]int8, api.Errno) {
	one := d.card(name)
	if one == nil {
		return nil, api.ErrNone
	}
	if !one.resident {
		return nil, api.ErrState
	}
	return one.w, api.OK
}

// strangers is names that no test puts.
func strangers() []string {
	return []string{"", "zz", "a ", "A", "\x00", "a\x00", strings.Repeat("z", 16), strings.Repeat("z", 17), strings.Repeat("a", 70000)}
}

// checkName holds what is to be seen of a name against what must be.
func (d *desk) checkName(behind, name string) {
	d.t.Helper()
	pins := -1
	if one := d.card(name); one != nil {
		pins = one.held
	}
	if n := d.s.Pins(name); n != pins {
		d.t.Fatalf("behind %s: Pins(%.20q) %d, want %d", behind, name, n, pins)
	}
	want, e := d.wantRead(name)
	if got, ge := d.s.Read(name); ge != e || !slices.Equal(got, want) {
		d.t.Fatalf("behind %s: Read(%.20q) %v, error %d; want %v, error %d", behind, name, short(got), ge, short(want), e)
	}
}

// check holds the pool and all that is to be seen of the shelf against what must be.
func (d *desk) check(behind string) {
	d.t.Helper()
	compare(d.t, behind, d.p, d.v)
	if got, want := d.s.Resident(), d.resident(); !slices.Equal(got, want) {
		d.t.Fatalf("behind %s: Resident %q, want %q", behind, got, want)
	}
	if got, want := d.s.Room(), d.room(); got != want {
		d.t.Fatalf("behind %s: Room %d, want %d", behind, got, want)
	}
	for _, one := range d.cards {
		d.checkName(behind, one.name)
	}
	for _, name := range strangers() {
		d.checkName(behind, name)
	}
	compare(d.t, "what was asked behind "+behind, d.p, d.v)
}

// short is weights that are not too many to print.
func short(w []int8) []int8 {
	return w[:min(len(w), 40)]
}

// told holds an answer against what it must be, and then all there is.
func (d *desk) told(call, name string, got, want api.Errno) {
	d.t.Helper()
	if got != want {
		d.t.Fatalf("%s(%.20q): error %d; want error %d", call, name, got, want)
	}
	d.check(call + "(" + name[:min(len(name), 20)] + ")")
}

func (d *desk) put(name string, w []int8) api.Errno {
	d.t.Helper()
	e := d.wantPut(name, w)
	d.told("Put", name, d.s.Put(name, w), e)
	return e
}

func (d *desk) remove(name string) api.Errno {
	d.t.Helper()
	e := d.wantRemove(name)
	d.told("Remove", name, d.s.Remove(name), e)
	return e
}

func (d *desk) pin(name string) api.Errno {
	d.t.Helper()
	e := d.wantPin(name)
	d.told("Pin", name, d.s.Pin(name), e)
	return e
}

func (d *desk) unpin(name string) api.Errno {
	d.t.Helper()
	e := d.wantUnpin(name)
	d.told("Unpin", name, d.s.Unpin(name), e)
	return e
}

func (d *desk) yield() bool {
	d.t.Helper()
	want := d.wantYield()
	if got := d.s.Yield(); got != want {
		d.t.Fatalf("Yield: %t; want %t", got, want)
	}
	d.check("Yield")
	return want
}

// do does one call, that is written as a letter and a name, and says its error (0 for Yield's true, 1 for its false).
func (d *desk) do(call string) api.Errno {
	d.t.Helper()
	name := call[1:]
	switch call[0] {
	case 'p':
		return d.pin(name)
	case 'u':
		return d.unpin(name)
	case 'r':
		return d.remove(name)
	case 'y':
		if d.yield() {
			return 0
		}
		return 1
	}
	d.t.Fatalf("no call: %s", call)
	return 0
}

// all does calls, all of which must be answered OK or true.
func (d *desk) all(calls ...string) {
	d.t.Helper()
	for _, call := range calls {
		if e := d.do(call); e != api.OK {
			d.t.Fatalf("%s: error %d", call, e)
		}
	}
}

// refused does a call, that must answer this error and change nothing.
func (d *desk) refused(call string, e api.Errno) {
	d.t.Helper()
	ahead, order, room := look(d.p), d.s.Resident(), d.s.Room()
	if ge := d.do(call); ge != e {
		d.t.Fatalf("%s: error %d; want error %d", call, ge, e)
	}
	compare(d.t, "a refused "+call, d.p, ahead)
	if !slices.Equal(order, d.s.Resident()) || room != d.s.Room() {
		d.t.Fatalf("behind a refused %s: resident %q, room %d; ahead of it %q, %d", call, d.s.Resident(), d.s.Room(), order, room)
	}
}

// lay puts weights on the shelf: a name, and how many pages they take (the last one not full), for each.
func (d *desk) lay(names string, pages ...int) {
	d.t.Helper()
	for i, name := range strings.Fields(names) {
		if e := d.put(name, weights(max(pages[i]*cells-3, 0))); e != api.OK {
			d.t.Fatalf("Put(%s): error %d", name, e)
		}
	}
}

// is looks what is resident.
func (d *desk) is(names string) {
	d.t.Helper()
	if got := strings.Join(d.s.Resident(), " "); got != names {
		d.t.Fatalf("resident are %q; want %q", got, names)
	}
}

// again is for what the test did with the pool itself.
func (d *desk) again(e api.Errno) {
	d.t.Helper()
	if e != api.OK {
		d.t.Fatalf("the pool's error %d", e)
	}
	d.v = look(d.p)
	d.check("a call of the pool")
}

// weights is so many weights of all kinds, such that each page's differ.
func weights(n int) []int8 {
	w := make([]int8, n)
	for i := range w {
		w[i] = int8(i*7 + i/cells*3 + n - 128)
	}
	return w
}

// sizes is counts of weights: none, one, and about whole pages.
func sizes() []int {
	return []int{0, 1, 2, 31, 32, 33, 63, 64, 65, 96, 97}
}

// 14.1: there is nothing on a new shelf, and the pool is as it was.
func TestNew(t *testing.T) {
	for _, n := range []int{1, 2, 7, 256} {
		d := start(t, n)
		if got := d.s.Room(); got != n {
			t.Errorf("Room of %d pages: %d", n, got)
		}
		if got := d.s.Resident(); len(got) != 0 {
			t.Errorf("resident: %q", got)
		}
		if d.yield() {
			t.Errorf("something was released")
		}
		for _, name := range append(strangers(), "a", "+a") {
			if n := d.s.Pins(name); n != -1 {
				t.Errorf("Pins(%.20q): %d", name, n)
			}
			for _, call := range []string{"p", "u", "r"} {
				d.refused(call+name, api.ErrNone)
			}
			if w, e := d.s.Read(name); len(w) != 0 || e != api.ErrNone {
				t.Errorf("Read(%.20q): %v, error %d", name, w, e)
			}
		}
	}
}

// 14.1: a shelf on a pool that is in use already, with pages of the shelf's own kind of tag in it.
func TestNewOnUsedPool(t *testing.T) {
	p, _ := pool.New(6)
	p.Take("+a", 2)
	p.Put(1, 5, 77)
	p.Reserve(3)
	d := startOn(t, p)
	if n := d.s.Room(); n != 1 {
		t.Errorf("Room: %d", n)
	}
	d.refused("pa", api.ErrNone)
	d.refused("y", 1)
	d.lay("a", 1)
	d.all("pa", "ua", "y", "pa", "ua", "ra")
	if n := p.Count("+a"); n != 2 {
		t.Errorf("pages of somebody else: %d", n)
	}
}

// 14.1: names by their bytes.
func TestPutNames(t *testing.T) {
	list := []struct {
		name string
		e    api.Errno
	}{
		{"", api.ErrRange},
		{"a", api.OK},
		{"+", api.OK},
		{" ", api.OK},
		{"\x00", api.OK},
		{"\xff", api.OK},
		{"ä", api.OK},
		{strings.Repeat("a", 15), api.OK},
		{strings.Repeat("a", 16), api.OK},
		{strings.Repeat("a", 17), api.ErrRange},
		{strings.Repeat("\xff", 16), api.OK},
		{strings.Repeat("\xff", 17), api.ErrRange},
		{strings.Repeat("ä", 8), api.OK},
		{strings.Repeat("ä", 9), api.ErrRange},
		{strings.Repeat("a", 18), api.ErrRange},
		{strings.Repeat("a", 256), api.ErrRange},
		{strings.Repeat("a", 257), api.ErrRange},
		{strings.Repeat("a", 1<<16), api.ErrRange},
		{strings.Repeat("a", 1<<16+1), api.ErrRange},
	}
	for _, w := range [][]int8{nil, {}, {1}, weights(40)} {
		for _, c := range list {
			d := start(t, 3)
			d.lay("other", 1)
			d.all("pother")
			if e := d.put(c.name, w); e != c.e {
				t.Errorf("Put of a name of %d bytes: error %d, want %d", len(c.name), e, c.e)
			}
			pins := -1
			if c.e == api.OK {
				pins = 0
			}
			if n := d.s.Pins(c.name); n != pins {
				t.Errorf("Pins of a name of %d bytes: %d", len(c.name), n)
			}
		}
	}
}

// 14.1: names that differ by little are names of their own.
func TestNamesAreApart(t *testing.T) {
	d := start(t, 16)
	names := []string{"a", "A", "a ", " a", "a\x00", "aa", "+a", "a+", "ä", "\xc3", strings.Repeat("a", 15), strings.Repeat("a", 16)}
	for i, name := range names {
		if e := d.put(name, []int8{int8(i), int8(-i)}); e != api.OK {
			t.Fatalf("Put(%q): error %d", name, e)
		}
	}
	for _, name := range names {
		d.all("p" + name)
		if n := d.p.Count("+" + name); n != 1 {
			t.Errorf("%d pages have the tag of %q", n, name)
		}
	}
	d.all("u"+names[3], "r"+names[3])
	if n := len(d.s.Resident()); n != len(names)-1 {
		t.Errorf("%d are resident", n)
	}
}

// 14.1: what is put lies there, not resident, and takes no page; it is what is read then.
func TestPutWeights(t *testing.T) {
	for _, n := range append(sizes(), 8192, 8193, 70000) {
		d := start(t, 256)
		ahead := look(d.p)
		if e := d.put("a", weights(n)); e != api.OK {
			t.Fatalf("Put of %d weights: error %d", n, e)
		}
		compare(t, "Put", d.p, ahead)
		if len(d.s.Resident()) != 0 || d.s.Room() != 256 || d.s.Pins("a") != 0 {
			t.Errorf("behind Put: resident %q, room %d, pins %d", d.s.Resident(), d.s.Room(), d.s.Pins("a"))
		}
		if w, e := d.s.Read("a"); len(w) != 0 || e != api.ErrState {
			t.Errorf("Read behind Put: %v, error %d", short(w), e)
		}
		if n > 8192 {
			d.refused("pa", api.OutOfMemory)
			continue
		}
		d.all("pa")
		if w, e := d.s.Read("a"); !slices.Equal(w, weights(n)) || e != api.OK {
			t.Errorf("Read of %d weights: %v, error %d", n, short(w), e)
		}
	}
}

// 14.1: weights at both ends of their kind.
func TestPutAllWeights(t *testing.T) {
	d := start(t, 16)
	var w []int8
	for v := math.MinInt8; v <= math.MaxInt8; v++ {
		w = append(w, int8(v), int8(-v))
	}
	d.put("a", w)
	d.all("pa")
	if got, e := d.s.Read("a"); !slices.Equal(got, w) || e != api.OK {
		t.Errorf("Read: %v, error %d", got, e)
	}
}

// 14.1: what has a name that is there already is refused, however that one stands, and changes nothing; a name that is none is refused as such each time.
func TestPutTwice(t *testing.T) {
	for _, calls := range [][]string{{}, {"pa"}, {"pa", "pa"}, {"pa", "ua"}, {"pa", "ua", "y"}} {
		for _, n := range []int{0, 1, 40, 400} {
			d := start(t, 4)
			d.lay("a b", 2, 1)
			d.all(calls...)
			for range 2 {
				if e := d.put("a", weights(n)); e != api.ErrTwice {
					t.Fatalf("Put of a name that is there: error %d", e)
				}
			}
			for _, name := range []string{"", strings.Repeat("a", 17)} {
				for range 2 {
					if e := d.put(name, weights(n)); e != api.ErrRange {
						t.Fatalf("Put of a name of %d bytes: error %d", len(name), e)
					}
				}
			}
			d.all("pa")
			if w, e := d.s.Read("a"); !slices.Equal(w, weights(61)) || e != api.OK {
				t.Fatalf("Read: %v, error %d", short(w), e)
			}
		}
	}
}

// 14.1: Remove, of one that is not there, not resident, resident, held.
func TestRemove(t *testing.T) {
	d := start(t, 5)
	d.refused("ra", api.ErrNone)
	d.lay("a b", 2, 1)
	d.refused("rc", api.ErrNone)
	d.all("ra")
	if n := d.s.Pins("a"); n != -1 {
		t.Errorf("Pins of what was removed: %d", n)
	}
	d.refused("ra", api.ErrNone)
	d.refused("pa", api.ErrNone)
	d.refused("ua", api.ErrNone)
	d.lay("a", 3)
	d.all("pa", "pb")
	d.refused("ra", api.ErrState)
	d.all("pa", "pa")
	d.refused("ra", api.ErrState)
	d.all("ua", "ua")
	d.refused("ra", api.ErrState)
	d.all("ua")
	d.is("b a")
	d.all("ra")
	d.is("b")
	if n := d.p.Count("+a"); n != 0 || d.s.Room() != 4 {
		t.Errorf("behind Remove %d pages have the tag, room %d", n, d.s.Room())
	}
	for page := 0; page < 3; page++ {
		if n := d.p.Owners(page); n != 0 {
			t.Errorf("page %d has %d owners", page, n)
		}
	}
	d.refused("ra", api.ErrNone)
}

// 14.1: one that was resident and is not any more is removed without another's pages being touched.
func TestRemoveReleased(t *testing.T) {
	d := start(t, 2)
	d.lay("a b", 2, 2)
	d.all("pa", "ua", "pb")
	d.is("b")
	d.all("ra")
	d.is("b")
	if n := d.p.Count("+b"); n != 2 {
		t.Errorf("%d pages have the tag of what is held", n)
	}
	d.refused("rb", api.ErrState)
	d.all("ub", "rb")
	if d.s.Room() != 2 {
		t.Errorf("Room: %d", d.s.Room())
	}
}

// 14.1: a name that was removed can be put again, with other weights, is not held and not resident then.
func TestPutAgain(t *testing.T) {
	for _, calls := range [][]string{{}, {"pa", "ua"}, {"pa", "ua", "y"}, {"pa", "pa", "ua", "ua"}} {
		d := start(t, 3)
		d.lay("a b", 2, 1)
		d.all(calls...)
		d.all("ra")
		if e := d.put("a", []int8{9, 8, 7}); e != api.OK {
			t.Fatalf("Put of a name that was removed: error %d", e)
		}
		if d.s.Pins("a") != 0 || len(d.s.Resident()) != 0 {
			t.Errorf("Pins %d, resident %q", d.s.Pins("a"), d.s.Resident())
		}
		d.refused("ua", api.ErrState)
		d.all("pb", "pa")
		if w, e := d.s.Read("a"); !slices.Equal(w, []int8{9, 8, 7}) || e != api.OK {
			t.Errorf("Read: %v, error %d", w, e)
		}
		d.is("b a")
	}
}

// 14.1: what is removed among others leaves the order of the others as it was.
func TestRemoveKeepsOrder(t *testing.T) {
	for _, c := range []struct{ name, left string }{{"a", "b c d"}, {"b", "a c d"}, {"c", "a b d"}, {"d", "a b c"}} {
		d := start(t, 4)
		d.lay("a b c d", 1, 1, 1, 1)
		d.all("pa", "pb", "pc", "pd", "ua", "ub", "uc", "ud", "r"+c.name)
		d.is(c.left)
		for range 3 {
			d.all("y")
		}
		d.refused("y", 1)
	}
}

// 14.1: Pins, of one that is not there, was never pinned, and behind Pins and Unpins.
func TestPins(t *testing.T) {
	d := start(t, 2)
	d.lay("a b", 1, 1)
	want := 0
	for i, call := range strings.Fields("pa pa ua pa pa ua ua ua pa ua") {
		d.all(call)
		if call[0] == 'p' {
			want++
		} else {
			want--
		}
		if n := d.s.Pins("a"); n != want {
			t.Errorf("%d: Pins %d, want %d", i, n, want)
		}
		if n := d.s.Pins("b"); n != 0 {
			t.Errorf("%d: Pins of the other one %d", i, n)
		}
	}
	if n := d.s.Pins("c"); n != -1 {
		t.Errorf("Pins of none: %d", n)
	}
	for range 300 {
		d.s.Pin("a")
	}
	if n := d.s.Pins("a"); n != 300 {
		t.Errorf("Pins behind 300: %d", n)
	}
}

// 14.1: the order of what is resident is that of the last Pin of each.
func TestResidentOrder(t *testing.T) {
	d := start(t, 4)
	d.lay("a b c e", 1, 1, 1, 0)
	d.is("")
	for _, step := range []struct{ call, is string }{
		{"pc", "c"}, {"pa", "c a"}, {"pe", "c a e"}, {"pb", "c a e b"},
		{"pa", "c e b a"}, {"pa", "c e b a"}, {"pc", "e b a c"}, {"pe", "b a c e"},
		{"ub", "b a c e"}, {"ua", "b a c e"}, {"ua", "b a c e"}, {"ue", "b a c e"},
		{"pb", "a c e b"}, {"ub", "a c e b"}, {"ua", "a c e b"}, {"ra", "c e b"},
		{"y", "c e"}, {"ue", "c e"}, {"y", "c"}, {"pe", "c e"}, {"pb", "c e b"},
		{"uc", "c e b"}, {"uc", "c e b"}, {"y", "e b"},
	} {
		d.all(step.call)
		d.is(step.is)
	}
}

// 14.1: Room is what is at hand, and what is resident and not held.
func TestRoom(t *testing.T) {
	d := start(t, 10)
	d.lay("a b e", 3, 2, 0)
	room := func(want int) {
		t.Helper()
		if n := d.s.Room(); n != want {
			t.Fatalf("Room: %d, want %d", n, want)
		}
	}
	room(10)
	d.again(d.p.Reserve(2))
	room(8)
	for _, step := range []struct {
		call string
		room int
	}{
		{"pa", 5}, {"pb", 3}, {"pe", 3}, {"pa", 3}, {"ua", 3}, {"ua", 6}, {"ue", 6}, {"ub", 8}, {"pb", 6},
		{"ra", 6}, {"ub", 8}, {"y", 8}, {"y", 8}, {"pb", 6}, {"ub", 8}, {"rb", 8},
	} {
		d.all(step.call)
		room(step.room)
	}
	_, e := d.p.Draw("x", 2)
	d.again(e)
	room(8)
	_, e = d.p.Take("y", 7)
	d.again(e)
	room(1)
	d.again(d.p.Drop(0))
	room(2)
}

// 14.2: Pin, of one that is not there, of one that is resident, and with pages at hand; each page has the tag.
func TestPin(t *testing.T) {
	for _, n := range sizes() {
		for _, name := range []string{"a", "+", strings.Repeat("n", 16), "\x00\xff", "ä ö"} {
			d := start(t, 9)
			d.lay("b", 2)
			d.all("pb")
			d.put(name, weights(n))
			d.refused("pzz", api.ErrNone)
			d.all("p" + name)
			need := (n + 31) / 32
			for page := 2; page < 9; page++ {
				tag, owners := "", 0
				if page < 2+need {
					tag, owners = "+"+name, 1
				}
				if d.p.Tag(page) != tag || d.p.Owners(page) != owners {
					t.Fatalf("%d weights: page %d has the tag %q and %d owners", n, page, d.p.Tag(page), d.p.Owners(page))
				}
			}
			ahead := look(d.p)
			d.all("p"+name, "p"+name, "u"+name)
			compare(t, "Pin of one that is resident", d.p, ahead)
		}
	}
}

// 14.2: the cells behind the last weight are 0, also in pages in which others lay.
func TestPinClean(t *testing.T) {
	d := start(t, 2)
	d.lay("a", 2)
	d.put("b", []int8{5})
	d.all("pa", "ua", "pb")
	d.is("b")
	for cell := 1; cell < cells; cell++ {
		if v, e := d.p.Get(0, cell); v != 0 || e != api.OK {
			t.Errorf("cell %d: %d, error %d", cell, v, e)
		}
	}
}

// 14.2: one that is resident is pinned, and releases nothing, with no page at hand.
func TestPinResidentWithoutRoom(t *testing.T) {
	d := start(t, 3)
	d.lay("a b", 1, 2)
	d.all("pa", "pb")
	d.all("pa", "ua", "ua")
	if d.s.Room() != 1 {
		t.Fatalf("Room: %d", d.s.Room())
	}
	d.all("pb", "pa")
	d.is("b a")
	d.refused("pzz", api.ErrNone)
}

// 14.2: just as many pages as are needed, and one too few, whatever stands in their way.
func TestPinJustEnough(t *testing.T) {
	for need := 1; need <= 6; need++ {
		for _, w := range []int{need*cells - 31, need * cells} {
			for _, held := range []int{0, 1, 3} {
				for _, aside := range []int{0, 2} {
					for _, loose := range []int{0, 1, 2, 5} {
						for _, short := range []int{0, 1} {
							pinJust(t, w, need, held, aside, loose, short)
						}
					}
				}
			}
		}
	}
}

// pinJust pins weights with so many pages held, laid aside and in use by somebody else, so many not held, and so many too few.
func pinJust(t *testing.T, w, need, held, aside, loose, short int) {
	t.Helper()
	loose = min(loose, need-short)
	d := start(t, need-short+held+aside+2)
	d.put("a", weights(w))
	d.lay("h l", held, loose)
	d.all("pl", "ph", "ul")
	d.again(d.p.Reserve(aside))
	_, e := d.p.Take("other", 2)
	d.again(e)
	if d.s.Room() != need-short {
		t.Fatalf("Room: %d, want %d", d.s.Room(), need-short)
	}
	if short > 0 {
		d.refused("pa", api.OutOfMemory)
		d.is("l h")
		if d.s.Pins("a") != 0 {
			t.Fatalf("Pins of what was refused: %d", d.s.Pins("a"))
		}
		return
	}
	d.all("pa")
	if loose > 0 {
		d.is("h a")
	} else {
		d.is("l h a")
	}
	if d.s.Room() != 0 {
		t.Fatalf("Room behind Pin: %d", d.s.Room())
	}
}

// 14.2: no more is released than is needed, and the one pinned longest ago first, over those that are held.
func TestPinReleases(t *testing.T) {
	for _, c := range []struct {
		need  int
		calls string
		is    string
	}{
		{1, "", "a b c d z"},
		{2, "", "b c d z"},
		{3, "", "c d z"},
		{4, "", "c d z"},
		{5, "", "d z"},
		{6, "", "z"},
		{2, "pa ua", "c d a z"},
		{2, "pa", "c d a z"},
		{3, "pa", "c d a z"},
		{4, "pa", "d a z"},
		{2, "pb", "c d b z"},
		{3, "pb", "d b z"},
		{6, "pa pc", ""},
		{5, "pa pc", "a c z"},
		{4, "pa pc", "a c z"},
		{3, "pa pc", "d a c z"},
		{2, "pb pd", "c b d z"},
		{2, "pa pb pc", "a b c z"},
		{2, "pa pb pc pd", ""},
		{1, "pa pb pc pd", "a b c d z"},
		{2, "pa ua pb ub", "d a b z"},
	} {
		d := start(t, 7)
		d.lay("a b c d z", 1, 2, 1, 2, c.need)
		d.all("pa", "pb", "pc", "pd", "ud", "ub", "ua", "uc")
		d.all(strings.Fields(c.calls)...)
		if c.is == "" {
			d.refused("pz", api.OutOfMemory)
			continue
		}
		d.all("pz")
		d.is(c.is)
	}
}

// 14.2: weights of none are resident in no page, and need no room; they are released in their turn all the same.
func TestPinOfNone(t *testing.T) {
	d := start(t, 1)
	d.lay("a b", 1, 1)
	d.put("e", nil)
	d.put("f", []int8{})
	d.all("pa", "pe", "pf")
	d.is("a e f")
	if d.s.Room() != 0 || d.s.Pins("e") != 1 {
		t.Errorf("Room %d, Pins %d", d.s.Room(), d.s.Pins("e"))
	}
	if w, e := d.s.Read("e"); len(w) != 0 || e != api.OK {
		t.Errorf("Read: %v, error %d", w, e)
	}
	d.refused("pb", api.OutOfMemory)
	d.all("ue", "uf")
	d.refused("pb", api.OutOfMemory)
	d.is("a e f")
	d.all("pa", "ua", "ua")
	d.is("e f a")
	d.all("pb")
	d.is("b")
	if w, e := d.s.Read("e"); len(w) != 0 || e != api.ErrState {
		t.Errorf("Read: %v, error %d", w, e)
	}
	d.all("pe", "ue", "y")
	d.is("b")
	d.all("pe", "ue", "re")
	d.is("b")
}

// 14.2: Unpin, of one that is not there, never pinned, unpinned as often as pinned; it stays resident.
func TestUnpin(t *testing.T) {
	d := start(t, 3)
	d.lay("a b e", 2, 2, 0)
	d.refused("uzz", api.ErrNone)
	for _, name := range []string{"a", "e"} {
		d.refused("u"+name, api.ErrState)
		d.all("p"+name, "p"+name, "u"+name, "u"+name)
		d.refused("u"+name, api.ErrState)
		if d.s.Pins(name) != 0 {
			t.Errorf("Pins: %d", d.s.Pins(name))
		}
	}
	d.is("a e")
	ahead := look(d.p)
	d.all("pa", "ua")
	compare(t, "Pin and Unpin", d.p, ahead)
	d.all("pb")
	d.refused("ua", api.ErrState)
	d.is("b")
}

// 14.2: Read, of one that is not there, not resident, held, resident and not held, released.
func TestRead(t *testing.T) {
	read := func(d *desk, want []int8, e api.Errno) {
		t.Helper()
		if w, ge := d.s.Read("a"); !slices.Equal(w, want) || ge != e {
			t.Errorf("Read: %v, error %d; want %v, error %d", short(w), ge, short(want), e)
		}
	}
	for _, n := range sizes() {
		d := start(t, 4)
		read(d, nil, api.ErrNone)
		d.put("a", weights(n))
		d.put("b", weights(128))
		read(d, nil, api.ErrState)
		d.all("pa")
		read(d, weights(n), api.OK)
		d.all("pa", "ua")
		read(d, weights(n), api.OK)
		d.all("ua")
		read(d, weights(n), api.OK)
		d.all("y")
		read(d, nil, api.ErrState)
		d.all("pa", "ua")
		read(d, weights(n), api.OK)
		d.all("ra")
		read(d, nil, api.ErrNone)
	}
	d := start(t, 4)
	d.lay("a b", 1, 4)
	d.all("pa", "ua", "pb")
	read(d, nil, api.ErrState)
}

// 14.2: what is read is what lies in the pages; brought in anew, it is what was put.
func TestReadFromPages(t *testing.T) {
	d := start(t, 3)
	d.lay("a", 2)
	d.all("pa", "ua")
	d.p.Put(1, 4, 127)
	want := weights(61)
	want[36] = 127
	if w, e := d.s.Read("a"); !slices.Equal(w, want) || e != api.OK {
		t.Errorf("Read of a changed page: %v, error %d", w, e)
	}
	for _, v := range []int64{128, -129, math.MaxInt64, 256} {
		d.p.Put(1, 4, v)
		if w, e := d.s.Read("a"); len(w) != 0 || e != api.ErrRange {
			t.Errorf("Read with %d in a cell: %v, error %d", v, w, e)
		}
	}
	d.s.Yield()
	d.s.Pin("a")
	if w, e := d.s.Read("a"); !slices.Equal(w, weights(61)) || e != api.OK {
		t.Errorf("Read behind another Pin: %v, error %d", w, e)
	}
}

// 14.2: Yield, with nothing resident, all held, one and several not held.
func TestYield(t *testing.T) {
	d := start(t, 9)
	d.refused("y", 1)
	d.lay("a b c d", 2, 1, 3, 0)
	d.refused("y", 1)
	d.all("pa", "pb", "pc", "pd")
	d.refused("y", 1)
	d.all("ub")
	d.all("y")
	d.is("a c d")
	d.refused("y", 1)
	d.all("pb", "ub", "ud", "uc", "ua", "pa")
	d.is("c d b a")
	d.all("y")
	d.is("d b a")
	if n := d.p.Count("+c"); n != 0 {
		t.Errorf("%d pages have the tag of what was released", n)
	}
	d.all("y")
	d.is("b a")
	d.all("y")
	d.is("a")
	d.refused("y", 1)
	d.all("ua", "y")
	d.is("")
	d.refused("y", 1)
	if d.s.Room() != 9 || d.s.Pins("a") != 0 {
		t.Errorf("Room %d, Pins %d", d.s.Room(), d.s.Pins("a"))
	}
}

// 14.2: the chapter's example.
func TestExample(t *testing.T) {
	d := start(t, 2)
	d.put("a", weights(40))
	d.put("b", weights(40))
	d.all("pa")
	d.refused("pb", api.OutOfMemory)
	d.all("ua", "pb")
	d.is("b")
}

// dice is numbers of all kinds, the same ones each time for a seed.
type dice uint64

// below is a number from 0 to n - 1.
func (d *dice) below(n int) int {
	x := uint64(*d)
	x ^= x << 13
	x ^= x >> 7
	x ^= x << 17
	*d = dice(x)
	return int(x >> 33 % uint64(n))
}

// step does a call of any kind; the pool's own calls are somebody else's beside the shelf.
func (d *desk) step(roll *dice, names []string) {
	d.t.Helper()
	name := names[roll.below(len(names))]
	switch roll.below(24) {
	case 0, 1, 2:
		d.put(name, weights(roll.below(4*cells+2)))
	case 3, 4:
		d.remove(name)
	case 5, 6, 7, 8, 9, 10, 11, 12:
		d.pinAsRoomSays(name)
	case 13, 14, 15, 16, 17, 18, 19:
		d.unpin(name)
	case 20:
		d.yield()
	case 21:
		pages, e := d.p.Take("other", roll.below(2))
		if e == api.OK && len(pages) > 0 {
			d.p.Put(pages[0], roll.below(cells), 12345)
		}
	case 22:
		d.p.Reserve(roll.below(2))
	default:
		d.giveBack()
	}
	d.v = look(d.p)
	d.check("a step")
}

// giveBack ends what somebody else has in the pool.
func (d *desk) giveBack() {
	_, _, aside := d.p.Sizes()
	d.p.Unreserve(aside)
	for page := range d.v.all {
		if d.p.Tag(page) == "other" {
			d.p.Drop(page)
		}
	}
}

// pinAsRoomSays pins, and looks whether it is refused just where Room says so, and what is held stays where it is.
func (d *desk) pinAsRoomSays(name string) {
	d.t.Helper()
	one := d.card(name)
	room := d.s.Room()
	var need int
	if one != nil && !one.resident {
		need = one.need()
	}
	held := d.heldPages()
	e := d.pin(name)
	if one != nil && (e == api.OK) != (room >= need) {
		d.t.Fatalf("Pin(%s) with room for %d of %d: error %d", name, room, need, e)
	}
	now := d.heldPages()
	for page, tag := range held {
		if now[page] != tag {
			d.t.Fatalf("behind Pin(%s) page %d has the tag %q; it was held as %q", name, page, now[page], tag)
		}
	}
}

// heldPages is the tags of the pages of what is held.
func (d *desk) heldPages() map[int]string {
	held := map[int]string{}
	for _, one := range d.cards {
		if one.held > 0 {
			for _, page := range one.pages {
				held[page] = d.p.Tag(page)
			}
		}
	}
	return held
}

// 14.3: over long rows of calls, with pools that are too small for all, what is read is what was put, what is held stays, and Room says what is refused.
func TestManyCalls(t *testing.T) {
	for _, pages := range []int{1, 2, 3, 5, 8, 13} {
		for seed := range uint64(4) {
			roll := dice(88172645463325252 + seed*7919 + uint64(pages))
			d := start(t, pages)
			names := []string{"a", "b", "c", "+", "\xff\x00", strings.Repeat("n", 16), ""}
			for range 700 {
				d.step(&roll, names)
			}
			d.giveBack()
			d.v = look(d.p)
			for _, name := range names[:6] {
				for d.s.Pins(name) > 0 {
					d.all("u" + name)
				}
				d.remove(name)
			}
			if all, free, _ := d.p.Sizes(); all != free || d.s.Room() != all {
				t.Errorf("of %d pages %d are free, room %d, with nothing on the shelf", all, free, d.s.Room())
			}
		}
	}
}

// 14.3: the same over all rows of five calls.
func TestAllRows(t *testing.T) {
	calls := []string{"pa", "pb", "pc", "ua", "ub", "uc", "y", "ra"}
	for row := range 8 * 8 * 8 * 8 * 8 {
		p, _ := pool.New(2)
		d := &desk{t: t, p: p, s: New(p), v: look(p)}
		for i, name := range []string{"a", "b", "c"} {
			w := weights([]int{40, 30, 33}[i])
			d.wantPut(name, w)
			d.s.Put(name, w)
		}
		for left, i := row, 0; i < 5; i++ {
			d.quick(calls[left%8])
			left /= 8
		}
		compare(t, "row "+strconv.Itoa(row), d.p, d.v)
		for _, one := range d.cards {
			d.checkName("row "+strconv.Itoa(row), one.name)
		}
	}
}

// quick does a call, and looks at little, as there are many of them.
func (d *desk) quick(call string) {
	d.t.Helper()
	var got, want api.Errno
	name := call[1:]
	switch call[0] {
	case 'p':
		got, want = d.s.Pin(name), d.wantPin(name)
	case 'u':
		got, want = d.s.Unpin(name), d.wantUnpin(name)
	case 'r':
		got, want = d.s.Remove(name), d.wantRemove(name)
	default:
		if d.s.Yield() != d.wantYield() {
			d.t.Fatalf("Yield is otherwise")
		}
	}
	if got != want || d.s.Room() != d.room() || !slices.Equal(d.s.Resident(), d.resident()) {
		d.t.Fatalf("%s: error %d, room %d, resident %q; want error %d, %d, %q", call, got, d.s.Room(), d.s.Resident(), want, d.room(), d.resident())
	}
}

// 14.3: adapters that take turns in a pool with room for one or two, each read as it was put.
func TestTurns(t *testing.T) {
	for _, pages := range []int{2, 3, 4} {
		d := start(t, pages)
		names := []string{"a", "b", "c", "d", "e"}
		for i, name := range names {
			d.put(name, weights(33+6*i))
		}
		for round := range 40 {
			i := round * (1 + round/10) % 5
			d.all("p" + names[i])
			if w, e := d.s.Read(names[i]); !slices.Equal(w, weights(33+6*i)) || e != api.OK {
				t.Fatalf("Read(%s): %v, error %d", names[i], w, e)
			}
			d.all("u" + names[i])
			if round%7 == 3 {
				d.all("y")
			}
		}
	}
}

// spoil writes over a list, and over the spare room behind it.
func spoil[E any](list []E, v E) {
	list = list[:cap(list)]
	for i := range list {
		list[i] = v
	}
}

// R4: what is handed to Put is not changed, nor the spare room behind it, and not kept.
func TestPutKeepsNothing(t *testing.T) {
	for _, n := range sizes() {
		for when := range 4 {
			d := start(t, 4)
			room := weights(n + 50)
			w := room[:n]
			d.put("a", w)
			if when > 0 {
				d.all("pa")
			}
			if when > 1 {
				d.all("ua")
			}
			if when > 2 {
				d.all("y")
			}
			if !slices.Equal(room, weights(n+50)) {
				t.Fatalf("what was handed in is %v", room)
			}
			spoil(room, 111)
			d.check("a change of what was put")
			d.all("pa")
			for d.s.Pins("a") > 0 {
				d.all("ua")
			}
			d.all("y", "pa")
			for _, v := range room {
				if v != 111 {
					t.Fatalf("what was handed in is changed later: %v", room)
				}
			}
		}
	}
}

// R4: two lots put from one list are apart.
func TestPutOfOneList(t *testing.T) {
	d := start(t, 4)
	w := weights(40)
	d.put("a", w)
	w[0]++
	d.put("b", w)
	w[0]++
	d.all("pa", "pb")
	a, _ := d.s.Read("a")
	b, _ := d.s.Read("b")
	if a[0]+1 != b[0] || b[0]+1 != w[0] {
		t.Errorf("the first weights are %d, %d, %d", a[0], b[0], w[0])
	}
}

// R4: what Read answers is new memory.
func TestReadIsNew(t *testing.T) {
	d := start(t, 3)
	d.lay("a", 2)
	d.all("pa")
	one, _ := d.s.Read("a")
	two, _ := d.s.Read("a")
	spoil(one, 99)
	if !slices.Equal(two, weights(61)) {
		t.Errorf("the second answer is %v", two)
	}
	d.check("a change of what was read")
	spoil(two, 98)
	d.check("a change of what was read")
	d.all("ua", "y", "pa")
	if w, _ := d.s.Read("a"); !slices.Equal(w, weights(61)) {
		t.Errorf("brought in anew: %v", w)
	}
}

// R4: what Resident answers is new memory.
func TestResidentIsNew(t *testing.T) {
	d := start(t, 4)
	d.lay("a b c d", 1, 1, 1, 1)
	d.all("pa", "pb", "pc")
	one, two := d.s.Resident(), d.s.Resident()
	spoil(one, "x")
	if !slices.Equal(two, []string{"a", "b", "c"}) {
		t.Errorf("the second answer is %q", two)
	}
	d.check("a change of the answer")
	three := d.s.Resident()
	d.all("pd", "pa", "ub", "y")
	if !slices.Equal(three, []string{"a", "b", "c"}) {
		t.Errorf("an answer is %q later", three)
	}
	_ = append(d.s.Resident(), "y", "z")
	d.check("a longer answer")
}

// 14.1: each shelf has a list of its own, also on one pool.
func TestShelvesAreApart(t *testing.T) {
	one := start(t, 4)
	two := startOn(t, one.p)
	one.lay("a b", 1, 3)
	two.lay("a", 2)
	one.all("pa", "ua")
	two.v = look(two.p)
	two.all("pa")
	two.is("a")
	one.v = look(one.p)
	one.check("a Pin of another shelf")
	if one.s.Room() != 2 || two.s.Room() != 1 {
		t.Errorf("Room: %d and %d", one.s.Room(), two.s.Room())
	}
	one.refused("pb", api.OutOfMemory)
	one.all("ra")
	two.v = look(two.p)
	two.check("a Remove of another shelf")
	if n := one.p.Count("+a"); n != 2 {
		t.Errorf("%d pages have the tag", n)
	}
}

// R2: where somebody else owns a page of what is not held, too, it cannot be had, and a Pin that is refused for it changes nothing.
func TestPagesOwnedByOthers(t *testing.T) {
	for shared := range 4 {
		d := start(t, 4)
		d.lay("a b z", 1, 2, 4)
		d.all("pa", "pb", "ua", "ub")
		if shared < 3 {
			d.again(d.p.Share(shared))
		}
		if n := d.s.Room(); n != 4 {
			t.Errorf("Room: %d", n)
		}
		if shared == 3 {
			d.all("pz")
			continue
		}
		ahead := look(d.p)
		if e := d.s.Pin("z"); e != api.OutOfMemory {
			t.Errorf("Pin: error %d", e)
		}
		compare(t, "a refused Pin", d.p, ahead)
		d.check("a refused Pin")
		d.again(d.p.Drop(shared))
		d.all("pz")
		d.is("z")
	}
}

// 14.2: a page that somebody else owns, too, is released by the shelf, and stays theirs.
func TestReleasedStaysOthers(t *testing.T) {
	d := start(t, 4)
	d.lay("a b z", 2, 1, 2)
	d.all("pa", "pb", "ua", "ub")
	d.again(d.p.Share(0))
	d.all("pz")
	d.is("b z")
	if d.p.Tag(0) != "+a" || d.p.Owners(0) != 1 {
		t.Errorf("page 0 has the tag %q and %d owners", d.p.Tag(0), d.p.Owners(0))
	}
	d.all("ra")
	if d.p.Owners(0) != 1 {
		t.Errorf("page 0 has %d owners", d.p.Owners(0))
	}
}

// R1: all calls end where somebody else has dropped pages of the shelf.
func TestPagesDroppedByOthers(t *testing.T) {
	for dropped := range 8 {
		for _, again := range []bool{false, true} {
			p, _ := pool.New(3)
			s := New(p)
			for i, n := range []int{60, 20, 90, 64} {
				s.Put(string(rune('a'+i)), weights(n))
			}
			s.Pin("a")
			s.Unpin("a")
			s.Pin("b")
			s.Unpin("b")
			for page := range 3 {
				if dropped>>page&1 == 1 {
					p.Drop(page)
				}
			}
			if again {
				p.Take("other", 1)
			}
			for range 3 {
				for _, name := range []string{"c", "d", "a", "b"} {
					s.Pin(name)
					s.Read(name)
					s.Unpin(name)
					s.Room()
				}
			}
			for range 5 {
				s.Yield()
			}
			for _, name := range []string{"a", "b", "c", "d"} {
				if e := s.Remove(name); e != api.OK {
					t.Errorf("Remove(%s): error %d", name, e)
				}
			}
			if n := len(s.Resident()); n != 0 {
				t.Errorf("%d are resident on an empty shelf", n)
			}
		}
	}
}
