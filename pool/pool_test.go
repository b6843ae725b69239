package pool

import (
	"math"
	"slices"
	"strconv"
	"strings"
	"testing"

	"aviary/api"
)

const (
	least = math.MinInt
	most  = math.MaxInt
	cells = 32
)

// ends is numbers at the ends of 64 bits, and of fewer, where a number that is cut short would be a small one.
func ends() []int {
	return []int{least, least + 1, least + 2, -1 << 32, -1<<32 + 1, -1 << 31, -1 << 16, -256, -255, 1 << 16, 1<<16 + 1, 1 << 31, 1 << 32, 1<<32 + 1, 1<<32 + 2, 1 << 62, 1<<63 - 3, most - 1, most}
}

// tags is texts of several kinds, none of them empty.
func tags() []string {
	return []string{"a", "b", "c", "A", " ", "\x00", "a\x00", "aa", "\xff", "ä", "model 1", strings.Repeat("a", 70000)}
}

// seen is what is to be seen of a page.
type seen struct {
	tag    string
	owners int
	cells  [cells]int64
}

// view is all that is to be seen of a pool.
type view struct {
	all, free, aside int
	pages            []seen
}

// look is what the pool's own calls tell of it.
func look(t *testing.T, p *Pool) view {
	t.Helper()
	var v view
	v.all, v.free, v.aside = p.Sizes()
	for i := range v.all {
		one := seen{tag: p.Tag(i), owners: p.Owners(i)}
		for cell := range cells {
			n, e := p.Get(i, cell)
			if one.owners == 0 && (n != 0 || e != api.ErrNone) || one.owners > 0 && e != api.OK {
				t.Errorf("Get(%d, %d): %d, error %d, with %d owners", i, cell, n, e, one.owners)
			}
			one.cells[cell] = n
		}
		v.pages = append(v.pages, one)
	}
	return v
}

// same tells whether two views are the same.
func same(a, b view) bool {
	return a.all == b.all && a.free == b.free && a.aside == b.aside && slices.Equal(a.pages, b.pages)
}

// wantPage is a page with owners, as it must be.
type wantPage struct {
	tag    string
	owners int
	cells  map[int]int64
}

// wantPool is a pool as it must be: pages that are not in the map are free.
type wantPool struct {
	all, aside int
	owned      map[int]*wantPage
}

// view is all that must be seen of the pool.
func (w *wantPool) view() view {
	v := view{all: w.all, free: w.all - len(w.owned), aside: w.aside, pages: make([]seen, w.all)}
	for i, one := range w.owned {
		v.pages[i] = seen{tag: one.tag, owners: one.owners}
		for cell, n := range one.cells {
			v.pages[i].cells[cell] = n
		}
	}
	return v
}

// take is what Take and Draw have in common: so many free pages, one by one, each time the least.
func (w *wantPool) take(tag string, k int) []int {
	var list []int
	for len(list) < k {
		first := 0
		for w.owned[first] != nil {
			first++
		}
		w.owned[first] = &wantPage{tag: tag, owners: 1, cells: map[int]int64{}}
		list = append(list, first)
	}
	return list
}

// call is a call that may change a pool, or Get.
type call struct {
	what       string
	tag        string
	k          int
	page, cell int
	v          int64
}

// answer is what a call answers.
type answer struct {
	list []int
	v    int64
	e    api.Errno
}

func (c call) String() string {
	switch c.what {
	case "Take", "Draw":
		return c.what + "(" + short(c.tag) + ", " + strconv.Itoa(c.k) + ")"
	case "Reserve", "Unreserve":
		return c.what + "(" + strconv.Itoa(c.k) + ")"
	case "Share", "Drop":
		return c.what + "(" + strconv.Itoa(c.page) + ")"
	case "Put":
		return "Put(" + strconv.Itoa(c.page) + ", " + strconv.Itoa(c.cell) + ", " + strconv.FormatInt(c.v, 10) + ")"
	}
	return "Get(" + strconv.Itoa(c.page) + ", " + strconv.Itoa(c.cell) + ")"
}

// short is a text that is not too long to print.
func short(s string) string {
	if len(s) > 20 {
		return strconv.Quote(s[:20]) + ".."
	}
	return strconv.Quote(s)
}

// of is what a pool answers to the call.
func (c call) of(p *Pool) answer {
	var a answer
	switch c.what {
	case "Take":
		a.list, a.e = p.Take(c.tag, c.k)
	case "Draw":
		a.list, a.e = p.Draw(c.tag, c.k)
	case "Reserve":
		a.e = p.Reserve(c.k)
	case "Unreserve":
		a.e = p.Unreserve(c.k)
	case "Share":
		a.e = p.Share(c.page)
	case "Drop":
		a.e = p.Drop(c.page)
	case "Put":
		a.e = p.Put(c.page, c.cell, c.v)
	case "Get":
		a.v, a.e = p.Get(c.page, c.cell)
	}
	return a
}

// wanted is what must be answered to the call, and what it must change.
func (c call) wanted(w *wantPool) answer {
	atHand := w.all - len(w.owned) - w.aside
	one := w.owned[c.page]
	switch c.what {
	case "Take", "Draw":
		from := atHand
		if c.what == "Draw" {
			from = w.aside
		}
		if c.tag == "" || c.k < 0 {
			return answer{e: api.ErrRange}
		}
		if from < c.k {
			return answer{e: api.OutOfMemory}
		}
		if c.what == "Draw" {
			w.aside -= c.k
		}
		return answer{list: w.take(c.tag, c.k)}
	case "Reserve":
		if c.k < 0 {
			return answer{e: api.ErrRange}
		}
		if atHand < c.k {
			return answer{e: api.OutOfMemory}
		}
		w.aside += c.k
		return answer{}
	case "Unreserve":
		if c.k < 0 || c.k > w.aside {
			return answer{e: api.ErrRange}
		}
		w.aside -= c.k
		return answer{}
	}
	if one == nil {
		return answer{e: api.ErrNone}
	}
	return c.wantedOf(w, one)
}

// wantedOf is the same of a call that names a page, which has owners.
func (c call) wantedOf(w *wantPool, one *wantPage) answer {
	if (c.what == "Put" || c.what == "Get") && (c.cell < 0 || c.cell > 31) {
		return answer{e: api.ErrRange}
	}
	switch c.what {
	case "Share":
		one.owners++
	case "Drop":
		one.owners--
		if one.owners == 0 {
			delete(w.owned, c.page)
		}
	case "Put":
		one.cells[c.cell] = c.v
	case "Get":
		return answer{v: one.cells[c.cell]}
	}
	return answer{}
}

// both is a pool, and one as it must be.
type both struct {
	p *Pool
	w *wantPool
}

// start is a new pool.
func start(t *testing.T, n int) both {
	t.Helper()
	p, e := New(n)
	if e != api.OK || p == nil {
		t.Fatalf("New(%d): %v, error %d", n, p, e)
	}
	b := both{p, &wantPool{all: n, owned: map[int]*wantPage{}}}
	b.checkView(t, "New("+strconv.Itoa(n)+")")
	return b
}

// check calls, and holds the answer against the one that must be.
func (b both) check(t *testing.T, c call) answer {
	t.Helper()
	got, want := c.of(b.p), c.wanted(b.w)
	if got.e != want.e || got.v != want.v || !slices.Equal(got.list, want.list) {
		t.Fatalf("%v of %d pages: %v, %d, error %d; want %v, %d, error %d", c, b.w.all, got.list, got.v, got.e, want.list, want.v, want.e)
	}
	return got
}

// checkWhole does the same, and looks at the whole pool then.
func (b both) checkWhole(t *testing.T, c call) answer {
	t.Helper()
	a := b.check(t, c)
	b.checkView(t, c.String())
	return a
}

// checkView holds all that is to be seen of the pool against what must be seen.
func (b both) checkView(t *testing.T, behind string) {
	t.Helper()
	got, want := look(t, b.p), b.w.view()
	if got.all != want.all || got.free != want.free || got.aside != want.aside {
		t.Fatalf("behind %s: sizes %d, %d, %d; want %d, %d, %d", behind, got.all, got.free, got.aside, want.all, want.free, want.aside)
	}
	for i := range want.pages {
		if got.pages[i] != want.pages[i] {
			t.Fatalf("behind %s: page %d is %v; want %v", behind, i, got.pages[i], want.pages[i])
		}
	}
}

// refuse calls, looks whether the error is the one that is asked for, and whether the pool is as it was.
func (b both) refuse(t *testing.T, c call, e api.Errno) {
	t.Helper()
	ahead := look(t, b.p)
	got := c.of(b.p)
	if got.e != e || got.v != 0 || len(got.list) != 0 {
		t.Errorf("%v of %d pages: %v, %d, error %d; want error %d", c, b.w.all, got.list, got.v, got.e, e)
	}
	if !same(ahead, look(t, b.p)) {
		t.Errorf("%v of %d pages: refused, but changed the pool", c, b.w.all)
	}
}

func take(tag string, k int) call    { return call{what: "Take", tag: tag, k: k, page: -1} }
func draw(tag string, k int) call    { return call{what: "Draw", tag: tag, k: k, page: -1} }
func reserve(k int) call             { return call{what: "Reserve", k: k, page: -1} }
func unreserve(k int) call           { return call{what: "Unreserve", k: k, page: -1} }
func share(page int) call            { return call{what: "Share", page: page} }
func drop(page int) call             { return call{what: "Drop", page: page} }
func get(page, cell int) call        { return call{what: "Get", page: page, cell: cell} }
func put(page, cell int, v int) call { return call{what: "Put", page: page, cell: cell, v: int64(v)} }

// after is a pool behind some calls.
func after(t *testing.T, n int, calls ...call) both {
	t.Helper()
	b := start(t, n)
	for _, c := range calls {
		if a := b.checkWhole(t, c); a.e != api.OK {
			t.Fatalf("%v: error %d", c, a.e)
		}
	}
	return b
}

// fill lays a number of its own in each cell of a page.
func (b both) fill(t *testing.T, page int) {
	t.Helper()
	for cell := range cells {
		b.check(t, put(page, cell, 1000*page+cell+1))
	}
}

// 11.1: New at all numbers that are right.
func TestNew(t *testing.T) {
	for n := 1; n <= 256; n++ {
		b := start(t, n)
		all, free, aside := b.p.Sizes()
		if all != n || free != n || aside != 0 {
			t.Errorf("New(%d): sizes %d, %d, %d", n, all, free, aside)
		}
		if k := b.p.Count(""); k != 0 {
			t.Errorf("New(%d): %d pages with the empty tag", n, k)
		}
	}
}

// 11.1: New at numbers outside its bounds.
func TestNewRefused(t *testing.T) {
	for _, n := range append(ends(), -257, -32, -2, -1, 0, 257, 258, 511, 512, 1<<16+256, 1<<32+256) {
		if p, e := New(n); p != nil || e != api.ErrRange {
			t.Errorf("New(%d): %v, error %d", n, p, e)
		}
	}
}

// 11.1: all pages of a new pool can be taken, and no more.
func TestAllPages(t *testing.T) {
	for _, n := range []int{1, 2, 3, 255, 256} {
		b := start(t, n)
		b.refuse(t, take("a", n+1), api.OutOfMemory)
		got := b.checkWhole(t, take("a", n))
		for i, page := range got.list {
			if page != i {
				t.Errorf("of %d pages the one at %d is %d", n, i, page)
			}
		}
		if len(got.list) != n {
			t.Errorf("of %d pages %d are taken", n, len(got.list))
		}
		b.refuse(t, take("a", 1), api.OutOfMemory)
	}
}

// 11.1: Sizes, step by step.
func TestSizes(t *testing.T) {
	b := start(t, 9)
	steps := []struct {
		c                call
		all, free, aside int
	}{
		{take("a", 2), 9, 7, 0}, {reserve(3), 9, 7, 3}, {share(1), 9, 7, 3}, {drop(1), 9, 7, 3}, {drop(1), 9, 8, 3},
		{draw("b", 2), 9, 6, 1}, {reserve(5), 9, 6, 6}, {unreserve(2), 9, 6, 4}, {take("c", 2), 9, 4, 4},
		{put(0, 0, 5), 9, 4, 4}, {get(0, 0), 9, 4, 4}, {take("c", 0), 9, 4, 4}, {draw("d", 4), 9, 0, 0}, {drop(8), 9, 1, 0}, {reserve(1), 9, 1, 1},
	}
	for _, s := range steps {
		if a := b.checkWhole(t, s.c); a.e != api.OK {
			t.Errorf("%v: error %d", s.c, a.e)
		}
		if all, free, aside := b.p.Sizes(); all != s.all || free != s.free || aside != s.aside {
			t.Errorf("behind %v: sizes %d, %d, %d; want %d, %d, %d", s.c, all, free, aside, s.all, s.free, s.aside)
		}
	}
}

// 11.1: Owners and Tag of pages that are free, that have one owner and more.
func TestOwnersAndTag(t *testing.T) {
	b := after(t, 6, take("a", 3), take("b", 2), share(1), share(1), share(4), drop(2))
	owners := []int{1, 3, 0, 1, 2, 0}
	names := []string{"a", "a", "", "b", "b", ""}
	for i := range 6 {
		if n := b.p.Owners(i); n != owners[i] {
			t.Errorf("Owners(%d): %d, want %d", i, n, owners[i])
		}
		if tag := b.p.Tag(i); tag != names[i] {
			t.Errorf("Tag(%d): %q, want %q", i, tag, names[i])
		}
	}
}

// none is numbers of which a pool of n pages has no page.
func none(n int) []int {
	return append(ends(), -256, -n, -2, -1, n, n+1, n+2, 2*n+256, 1<<16, 1<<32)
}

// 11.1: Owners and Tag of pages that there are none of, where all that there are have owners.
func TestOwnersAndTagOfNone(t *testing.T) {
	for _, n := range []int{1, 4, 255, 256} {
		b := after(t, n, take("a", n))
		for _, page := range none(n) {
			if k, tag := b.p.Owners(page), b.p.Tag(page); k != 0 || tag != "" {
				t.Errorf("page %d of %d: %d owners, tag %q", page, n, k, tag)
			}
		}
	}
}

// 11.1: Count of tags that several pages have, one has, none has.
func TestCount(t *testing.T) {
	b := after(t, 12, take("a", 3), take("b", 1), reserve(4), draw("a", 2), take("aa", 1), share(0), share(3), drop(1), drop(3))
	for tag, want := range map[string]int{"a": 4, "b": 1, "aa": 1, "c": 0, "A": 0, "a\x00": 0, "aaa": 0, " ": 0, "": 0} {
		if n := b.p.Count(tag); n != want {
			t.Errorf("Count(%q): %d, want %d", tag, n, want)
		}
	}
	b.check(t, drop(3))
	if n := b.p.Count("b"); n != 0 {
		t.Errorf("Count(b): %d, but its last page is dropped", n)
	}
}

// 11.1: no page has the empty tag, however many are free.
func TestCountOfTheEmptyTag(t *testing.T) {
	b := start(t, 5)
	for _, c := range []call{take("a", 5), drop(0), drop(3), reserve(1), draw("b", 1), drop(1)} {
		b.check(t, c)
		if n := b.p.Count(""); n != 0 {
			t.Errorf("behind %v: Count of the empty tag: %d", c, n)
		}
	}
}

// 11.1, 11.2: a tag is any text, told from others by all its bytes (R6: however long).
func TestTags(t *testing.T) {
	names := append(tags(), strings.Repeat("a", 69999)+"b", strings.Repeat("a", 69999), "model 2")
	b := start(t, 2*len(names))
	for i, tag := range names {
		b.check(t, take(tag, 1))
		b.check(t, reserve(1))
		b.check(t, draw(tag, 1))
		if got := b.p.Tag(2 * i); got != tag {
			t.Errorf("the tag of a page of %s is %s", short(tag), short(got))
		}
	}
	for _, tag := range names {
		if n := b.p.Count(tag); n != 2 {
			t.Errorf("Count(%s): %d", short(tag), n)
		}
	}
}

// 11.2: Take of as many as are at hand, and of fewer; of one more, and of many more.
func TestTake(t *testing.T) {
	for _, n := range []int{1, 2, 7, 255, 256} {
		for aside := 0; aside <= n; aside += 1 + n/5 {
			for used := 0; used+aside <= n; used += 1 + n/5 {
				hand := n - aside - used
				for _, k := range []int{0, 1, hand - 1, hand} {
					if k < 0 || k > hand {
						continue
					}
					b := after(t, n, take("x", used), reserve(aside))
					got := b.checkWhole(t, take("a", k))
					if got.e != api.OK || len(got.list) != k || b.p.Count("a") != k {
						t.Errorf("%d pages of %d: %v, error %d, count %d", k, n, got.list, got.e, b.p.Count("a"))
					}
				}
				b := after(t, n, take("x", used), reserve(aside))
				for _, k := range []int{hand + 1, hand + 2, n - used + 1, n + 1, 257, 1 << 16, 1 << 31, 1 << 32, 1<<32 + 1, 1 << 62, most - 1, most} {
					b.refuse(t, take("a", k), api.OutOfMemory)
				}
			}
		}
	}
}

// 11.2: Take with the empty tag, or of fewer pages than 0: ErrRange, also where nothing is at hand.
func TestTakeRange(t *testing.T) {
	for _, b := range []both{start(t, 3), after(t, 3, take("a", 3)), after(t, 3, reserve(3)), after(t, 3, take("a", 1), reserve(1))} {
		for _, k := range append(ends(), -3, -2, -1, 0, 1, 2, 3, 4) {
			b.refuse(t, take("", k), api.ErrRange)
			if k < 0 {
				b.refuse(t, take("a", k), api.ErrRange)
				b.refuse(t, take(tags()[11], k), api.ErrRange)
			}
		}
	}
}

// 11.2: the free pages with the least numbers are taken, rising, also those that were dropped in between.
func TestTakeTheLeast(t *testing.T) {
	b := after(t, 10, take("a", 8), drop(6), drop(1), drop(4))
	if got := b.checkWhole(t, take("b", 2)); !slices.Equal(got.list, []int{1, 4}) {
		t.Errorf("took %v", got.list)
	}
	if got := b.checkWhole(t, take("c", 2)); !slices.Equal(got.list, []int{6, 8}) {
		t.Errorf("took %v", got.list)
	}
	b.check(t, drop(0))
	if got := b.checkWhole(t, take("d", 2)); !slices.Equal(got.list, []int{0, 9}) {
		t.Errorf("took %v", got.list)
	}
	b.check(t, drop(9))
	b.check(t, drop(8))
	b.check(t, drop(7))
	b.check(t, reserve(1))
	if got := b.checkWhole(t, take("e", 2)); !slices.Equal(got.list, []int{7, 8}) {
		t.Errorf("took %v", got.list)
	}
	if got := b.checkWhole(t, draw("f", 1)); !slices.Equal(got.list, []int{9}) {
		t.Errorf("drew %v", got.list)
	}
}

// 11.2: each choice of free pages among eight, for Take and for Draw.
func TestTakeAmongAll(t *testing.T) {
	for holes := range 1 << 8 {
		for _, drawn := range []bool{false, true} {
			b := start(t, 8)
			b.check(t, take("a", 8))
			var free []int
			for page := range 8 {
				if holes>>page&1 == 1 {
					b.check(t, drop(page))
					free = append(free, page)
				}
			}
			k := (len(free) + 1) / 2
			c := take("b", k)
			if drawn {
				b.check(t, reserve(k))
				c = draw("b", k)
			}
			if got := b.checkWhole(t, c); !slices.Equal(got.list, free[:k]) {
				t.Errorf("of the free pages %v: %v answers %v", free, c, got.list)
			}
		}
	}
}

// 11.2: a page that is taken has the tag, one owner and 0 in all cells, whatever was there before it was dropped.
func TestTakenPagesAreNew(t *testing.T) {
	for _, c := range []call{take("b", 4), draw("b", 4)} {
		b := after(t, 4, take("a", 4), share(2), share(2))
		for page := range 4 {
			b.fill(t, page)
		}
		for _, page := range []int{2, 0, 1, 2, 3, 2} {
			b.checkWhole(t, drop(page))
		}
		if c.what == "Draw" {
			b.check(t, reserve(4))
		}
		b.checkWhole(t, c)
		for page := range 4 {
			if n, tag := b.p.Owners(page), b.p.Tag(page); n != 1 || tag != "b" {
				t.Errorf("behind %v: page %d has %d owners and the tag %q", c, page, n, tag)
			}
			for cell := range cells {
				if n, e := b.p.Get(page, cell); n != 0 || e != api.OK {
					t.Errorf("behind %v: cell %d of page %d: %d, error %d", c, cell, page, n, e)
				}
			}
		}
	}
}

// 11.2: pages that others have are as they were, whoever takes.
func TestTakeLeavesOthers(t *testing.T) {
	b := after(t, 6, take("a", 3), share(1))
	b.fill(t, 0)
	b.fill(t, 1)
	b.fill(t, 2)
	b.check(t, drop(0))
	b.checkWhole(t, take("b", 2))
	b.checkWhole(t, reserve(2))
	b.checkWhole(t, draw("a", 1))
	if n, e := b.p.Get(2, 31); n != 2032 || e != api.OK {
		t.Errorf("the last cell of page 2: %d, error %d", n, e)
	}
}

// 11.2: Reserve of as many as are at hand, of one more, and of numbers at the ends.
func TestReserve(t *testing.T) {
	for _, n := range []int{1, 2, 7, 256} {
		for used := 0; used <= n; used += 1 + n/3 {
			for aside := 0; used+aside <= n; aside += 1 + n/3 {
				hand := n - used - aside
				b := after(t, n, take("a", used), reserve(aside))
				for _, k := range append(ends(), -n, -2, -1) {
					if k < 0 {
						b.refuse(t, reserve(k), api.ErrRange)
					}
				}
				for _, k := range append(ends(), hand+1, hand+2, n+1, most-n, most-n+1, most-aside, most-aside+1) {
					if k > n {
						b.refuse(t, reserve(k), api.OutOfMemory)
					}
				}
				b.refuse(t, reserve(hand+1), api.OutOfMemory)
				b.checkWhole(t, reserve(0))
				if hand > 1 {
					b.checkWhole(t, reserve(1))
					hand--
				}
				b.checkWhole(t, reserve(hand))
				if _, free, laid := b.p.Sizes(); free != n-used || laid != n-used {
					t.Errorf("of %d pages with %d used: %d free, %d laid aside", n, used, free, laid)
				}
				b.refuse(t, reserve(1), api.OutOfMemory)
				b.refuse(t, take("b", 1), api.OutOfMemory)
				b.checkWhole(t, reserve(0))
			}
		}
	}
}

// 11.2: Unreserve of as many as are laid aside, of one more, and of numbers at the ends.
func TestUnreserve(t *testing.T) {
	for _, n := range []int{1, 2, 7, 256} {
		for used := 0; used <= n; used += 1 + n/3 {
			for aside := 0; used+aside <= n; aside += 1 + n/3 {
				b := after(t, n, take("a", used), reserve(aside))
				for _, k := range append(ends(), -n, -2, -1, aside+1, aside+2, n+1, most-aside, least+aside) {
					b.refuse(t, unreserve(k), api.ErrRange)
				}
				b.checkWhole(t, unreserve(0))
				left := aside
				if left > 1 {
					b.checkWhole(t, unreserve(1))
					left--
				}
				b.checkWhole(t, unreserve(left))
				if _, free, laid := b.p.Sizes(); free != n-used || laid != 0 {
					t.Errorf("of %d pages with %d used: %d free, %d laid aside", n, used, free, laid)
				}
				b.refuse(t, unreserve(1), api.ErrRange)
				b.checkWhole(t, unreserve(0))
				b.checkWhole(t, take("b", n-used))
			}
		}
	}
}

// 11.2: Draw of as many as are laid aside, and of fewer: so many fewer are laid aside then; of one more, although pages are at hand.
func TestDraw(t *testing.T) {
	for _, n := range []int{1, 2, 7, 256} {
		for used := 0; used <= n; used += 1 + n/3 {
			for aside := 0; used+aside <= n; aside += 1 + n/4 {
				for _, k := range []int{0, 1, aside - 1, aside} {
					if k < 0 || k > aside {
						continue
					}
					b := after(t, n, take("x", used), reserve(aside))
					got := b.checkWhole(t, draw("a", k))
					_, free, laid := b.p.Sizes()
					if got.e != api.OK || len(got.list) != k || b.p.Count("a") != k || free != n-used-k || laid != aside-k {
						t.Errorf("%d pages of %d: %v, error %d, count %d, %d free, %d laid aside", k, aside, got.list, got.e, b.p.Count("a"), free, laid)
					}
				}
				b := after(t, n, take("x", used), reserve(aside))
				for _, k := range []int{aside + 1, aside + 2, n + 1, 257, 1 << 16, 1 << 31, 1 << 32, 1<<32 + 1, 1 << 62, most - 1, most} {
					b.refuse(t, draw("a", k), api.OutOfMemory)
				}
			}
		}
	}
}

// 11.2: Draw with the empty tag, or of fewer pages than 0: ErrRange, also where nothing is laid aside.
func TestDrawRange(t *testing.T) {
	for _, b := range []both{start(t, 3), after(t, 3, take("a", 3)), after(t, 3, reserve(3)), after(t, 3, take("a", 1), reserve(1))} {
		for _, k := range append(ends(), -3, -2, -1, 0, 1, 2, 3, 4) {
			b.refuse(t, draw("", k), api.ErrRange)
			if k < 0 {
				b.refuse(t, draw("a", k), api.ErrRange)
				b.refuse(t, draw(tags()[11], k), api.ErrRange)
			}
		}
	}
}

// 11.3: a page that is shared several times and dropped as often is free just behind the last Drop.
func TestShareAndDrop(t *testing.T) {
	for _, times := range []int{0, 1, 2, 5, 127, 128, 255, 256, 300} {
		b := after(t, 3, take("a", 2))
		b.fill(t, 0)
		b.fill(t, 1)
		for i := range times {
			b.checkWhole(t, share(1))
			if n := b.p.Owners(1); n != i+2 {
				t.Errorf("shared %d times: %d owners", i+1, n)
			}
		}
		for i := range times {
			b.checkWhole(t, drop(1))
			if n, tag := b.p.Owners(1), b.p.Tag(1); n != times-i || tag != "a" {
				t.Errorf("shared %d times, dropped %d times: %d owners, tag %q", times, i+1, n, tag)
			}
		}
		b.checkWhole(t, drop(1))
		if n, tag, k := b.p.Owners(1), b.p.Tag(1), b.p.Count("a"); n != 0 || tag != "" || k != 1 {
			t.Errorf("shared %d times, dropped once more: %d owners, tag %q, %d pages with it", times, n, tag, k)
		}
		b.refuse(t, drop(1), api.ErrNone)
		b.refuse(t, share(1), api.ErrNone)
		if got := b.checkWhole(t, take("b", 1)); !slices.Equal(got.list, []int{1}) {
			t.Errorf("shared %d times, then free, but %v is taken", times, got.list)
		}
		b.checkWhole(t, share(1))
		b.checkWhole(t, drop(0))
	}
}

// 11.3: more owners than 16 bits tell.
func TestManyOwners(t *testing.T) {
	const times = 1<<16 + 5
	b := after(t, 2, take("a", 1))
	for range times {
		b.check(t, share(0))
	}
	if n := b.p.Owners(0); n != times+1 {
		t.Errorf("shared %d times: %d owners", times, n)
	}
	for range times {
		b.check(t, drop(0))
	}
	if n, tag := b.p.Owners(0), b.p.Tag(0); n != 1 || tag != "a" {
		t.Errorf("shared and dropped %d times: %d owners, tag %q", times, n, tag)
	}
	b.checkWhole(t, drop(0))
}

// 11.3: pages that are free, and that there are none of.
func TestNoSuchPage(t *testing.T) {
	for _, n := range []int{1, 4, 255, 256} {
		full := after(t, n, take("a", n))
		for _, page := range none(n) {
			full.refusePage(t, page)
		}
		empty := after(t, n, reserve(n/2))
		for _, page := range append(none(n), 0, n/2, n-1) {
			empty.refusePage(t, page)
		}
	}
	b := after(t, 5, take("a", 4), share(1), drop(2), drop(1))
	for _, page := range []int{-1, 2, 4, 5} {
		b.refusePage(t, page)
	}
	b.checkWhole(t, drop(1))
	b.refusePage(t, 1)
}

// refusePage tries all calls that name a page, at right cells and at wrong ones: ErrNone comes first.
func (b both) refusePage(t *testing.T, page int) {
	t.Helper()
	b.refuse(t, share(page), api.ErrNone)
	b.refuse(t, drop(page), api.ErrNone)
	for _, cell := range []int{least, -1, 0, 31, 32, most} {
		b.refuse(t, put(page, cell, 7), api.ErrNone)
		b.refuse(t, get(page, cell), api.ErrNone)
	}
}

// 11.3: what was put lies there, in each cell, and all other cells and pages are as they were.
func TestPutAndGet(t *testing.T) {
	b := after(t, 4, take("a", 1), take("b", 2), share(1))
	for page := range 3 {
		for cell := range cells {
			v := math.MaxInt64 - 100*page - cell
			b.checkWhole(t, put(page, cell, v))
			if got := b.checkWhole(t, get(page, cell)); got.v != int64(v) {
				t.Errorf("cell %d of page %d: %d, want %d", cell, page, got.v, v)
			}
		}
	}
	for _, page := range []int{2, 0, 1} {
		for _, cell := range []int{0, 31, 17} {
			for _, v := range []int{0, 1, -1, 127, 128, -128, -129, 65536, api.MaxNum, api.MaxNum + 1, api.MinNum, api.MinNum - 1, 1 << 53, 1<<53 + 1, most, most - 1, least, least + 1} {
				b.checkWhole(t, put(page, cell, v))
				if got, e := b.p.Get(page, cell); got != int64(v) || e != api.OK {
					t.Errorf("cell %d of page %d: %d, error %d; want %d", cell, page, got, e, v)
				}
			}
		}
	}
}

// 11.3: cells that there are none of.
func TestNoSuchCell(t *testing.T) {
	b := after(t, 3, take("a", 3), share(1))
	for page := range 3 {
		b.fill(t, page)
	}
	for page := range 3 {
		for _, cell := range append(ends(), -32, -31, -2, -1, 32, 33, 63, 64, 256, 288, 1<<16+31, 1<<32+31) {
			b.refuse(t, put(page, cell, -5), api.ErrRange)
			b.refuse(t, get(page, cell), api.ErrRange)
		}
	}
}

// 11.3: a page has the same cells for all its owners: sharing and dropping leave them.
func TestOwnersLeaveCells(t *testing.T) {
	b := after(t, 2, take("a", 2))
	b.fill(t, 0)
	b.fill(t, 1)
	for _, c := range []call{share(0), drop(0), share(0), share(1), put(0, 3, 9), drop(0)} {
		b.checkWhole(t, c)
	}
	if n, e := b.p.Get(0, 3); n != 9 || e != api.OK {
		t.Errorf("cell 3 of page 0: %d, error %d", n, e)
	}
	if n, e := b.p.Get(0, 4); n != 5 || e != api.OK {
		t.Errorf("cell 4 of page 0: %d, error %d", n, e)
	}
}

// 11.1 to 11.3: the chapter's example.
func TestExample(t *testing.T) {
	b := start(t, 4)
	steps := []struct {
		c    call
		list []int
		e    api.Errno
	}{
		{take("a", 2), []int{0, 1}, api.OK}, {drop(0), nil, api.OK}, {take("b", 2), []int{0, 2}, api.OK},
		{reserve(1), nil, api.OK}, {take("c", 1), nil, api.OutOfMemory}, {draw("c", 1), []int{3}, api.OK},
	}
	for _, s := range steps {
		if got := b.checkWhole(t, s.c); !slices.Equal(got.list, s.list) || got.e != s.e {
			t.Errorf("%v: %v, error %d; want %v, error %d", s.c, got.list, got.e, s.list, s.e)
		}
	}
}

// dice is numbers of all kinds, the same ones each time for a seed.
type dice uint64

// below is a number from 0 to n - 1.
func (d *dice) below(n int) int {
	x := uint64(*d)
	x ^= x << 13
	x ^= x >> 7
	x ^= x << 17
	*d = dice(x)
	return int(x >> 33 % uint64(n))
}

// any is a call of any kind, mostly such as are not refused.
func (d *dice) any(all int) call {
	names := []string{"a", "b", "c", "d", "e", ""}
	tag := names[d.below(6)]
	k := d.below(all/8+3) - 1
	page, cell := d.below(all+2)-1, d.below(34)-1
	switch d.below(24) {
	case 0, 1, 2:
		return take(tag, k)
	case 3, 4:
		return draw(tag, k)
	case 5, 6:
		return reserve(k)
	case 7:
		return unreserve(k)
	case 8, 9, 10:
		return share(page)
	case 11, 12, 13, 14, 15, 16, 17:
		return drop(page)
	case 18, 19, 20:
		return put(page, cell, int(*d))
	}
	return get(page, cell)
}

// checkKept looks whether free pages and those with owners are all, and no more are laid aside than are free.
func checkKept(t *testing.T, p *Pool) {
	t.Helper()
	all, free, aside := p.Sizes()
	owned := 0
	for page := range all {
		if n := p.Owners(page); n > 0 {
			owned++
			if p.Tag(page) == "" {
				t.Fatalf("page %d has %d owners and no tag", page, n)
			}
		} else if n < 0 || p.Tag(page) != "" {
			t.Fatalf("page %d has %d owners and the tag %q", page, n, p.Tag(page))
		}
	}
	if free+owned != all || aside < 0 || aside > free {
		t.Fatalf("%d pages, %d free, %d with owners, %d laid aside", all, free, owned, aside)
	}
}

// 11.4: over long rows of calls pages are kept, and what was laid aside can be drawn.
func TestPagesAreKept(t *testing.T) {
	for _, n := range []int{1, 2, 3, 5, 16, 40, 255, 256} {
		d := dice(88172645463325252 + uint64(n))
		b := start(t, n)
		for i := range 6000 {
			c := d.any(n)
			b.check(t, c)
			checkKept(t, b.p)
			if i%50 == 0 {
				b.checkView(t, c.String())
			}
			if i%97 == 0 {
				_, free, aside := b.p.Sizes()
				if got := b.checkWhole(t, draw("laid", aside)); got.e != api.OK || len(got.list) != aside {
					t.Fatalf("%d pages are laid aside, and not drawn: %v, error %d", aside, got.list, got.e)
				}
				if _, now, none := b.p.Sizes(); now != free-aside || none != 0 {
					t.Fatalf("%d pages of %d are drawn: %d are free, %d laid aside", aside, free, now, none)
				}
			}
		}
		counted := 0
		for _, tag := range []string{"a", "b", "c", "d", "e", "laid"} {
			counted += b.p.Count(tag)
		}
		if all, free, _ := b.p.Sizes(); counted != all-free {
			t.Errorf("%d of %d pages are free, but %d have tags", free, all, counted)
		}
	}
}

// 11.4: the same over all rows of five calls, of pools with one page, two and three.
func TestPagesAreKeptInAllRows(t *testing.T) {
	calls := []call{take("a", 1), take("b", 2), draw("a", 1), draw("c", 2), reserve(1), reserve(2), unreserve(1), share(0), drop(0), drop(1)}
	for n := 1; n <= 3; n++ {
		for row := range 100000 {
			b := unseen(n)
			for left, i := row, 0; i < 5; i++ {
				b.check(t, calls[left%10])
				left /= 10
			}
			checkKept(t, b.p)
			_, _, aside := b.p.Sizes()
			if got := b.check(t, draw("d", aside)); got.e != api.OK || len(got.list) != aside {
				t.Fatalf("row %d: %d pages are laid aside, and not drawn: %v, error %d", row, aside, got.list, got.e)
			}
			checkKept(t, b.p)
		}
	}
}

// unseen is a new pool that is not looked at, as there are many of them.
func unseen(n int) both {
	p, _ := New(n)
	return both{p, &wantPool{all: n, owned: map[int]*wantPage{}}}
}

// 11.4: pages that are given back by all owners are all free again, and can all be taken.
func TestAllGivenBack(t *testing.T) {
	for _, n := range []int{1, 6, 256} {
		d := dice(362436069 + uint64(n))
		b := start(t, n)
		for range 3000 {
			b.check(t, d.any(n))
		}
		for page := range n {
			for range b.p.Owners(page) {
				b.check(t, drop(page))
			}
		}
		all, free, aside := b.p.Sizes()
		if all != n || free != n {
			t.Errorf("of %d pages %d are free", all, free)
		}
		b.checkWhole(t, unreserve(aside))
		b.checkWhole(t, take("z", n))
	}
}

// R2: what is refused changes nothing, at all calls and many states.
func TestRefusedChangesNothing(t *testing.T) {
	for _, n := range []int{1, 3, 8} {
		d := dice(521288629 + uint64(n))
		b := start(t, n)
		refused := 0
		for range 3000 {
			c := d.any(n)
			ahead := look(t, b.p)
			if a := b.check(t, c); a.e != api.OK {
				refused++
				if !same(ahead, look(t, b.p)) {
					t.Fatalf("%v: error %d, but the pool is another", c, a.e)
				}
			}
		}
		if refused < 300 {
			t.Errorf("only %d calls were refused", refused)
		}
	}
}

// spoil writes over a list, and over the spare room behind it.
func spoil(list []int) {
	list = list[:cap(list)]
	for i := range list {
		list[i] = -7
	}
}

// R4: the lists that Take and Draw answer share no memory with the pool.
func TestAnswersAreNew(t *testing.T) {
	b := start(t, 12)
	for _, c := range []call{take("a", 3), reserve(6), draw("b", 4), take("c", 0), draw("c", 0), drop(1), drop(4), take("d", 3), draw("e", 2)} {
		spoil(b.check(t, c).list)
		b.checkView(t, c.String())
	}
	b.checkWhole(t, drop(0))
	if got := b.checkWhole(t, take("f", 1)); !slices.Equal(got.list, []int{0}) {
		t.Errorf("took %v", got.list)
	}
}

// R4: no answer shares memory with another.
func TestAnswersAreApart(t *testing.T) {
	b := after(t, 12, reserve(6))
	first := b.check(t, take("a", 2)).list
	second := b.check(t, draw("b", 3)).list
	third := b.check(t, take("c", 2)).list
	spoil(second)
	if !slices.Equal(first, []int{0, 1}) || !slices.Equal(third, []int{5, 6}) {
		t.Errorf("the answers are %v and %v, behind a change of that between them", first, third)
	}
	_ = append(first, -8, -9)
	spoil(first)
	if !slices.Equal(third, []int{5, 6}) {
		t.Errorf("the answer is %v, behind a change of another", third)
	}
	b.checkView(t, "changes of all answers")
}

// 11.1: each pool has pages of its own.
func TestPoolsAreApart(t *testing.T) {
	one := after(t, 4, take("a", 2), reserve(1), share(0), put(0, 0, 5))
	two := start(t, 4)
	two.checkWhole(t, take("b", 1))
	two.checkWhole(t, put(0, 0, 6))
	two.checkWhole(t, drop(0))
	one.checkView(t, "calls of another pool")
	two.checkView(t, "calls of another pool")
}
