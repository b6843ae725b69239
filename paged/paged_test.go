package paged

import (
	"math"
	"runtime"
	"slices"
	"strings"
	"testing"

	"aviary/api"
	"aviary/pool"
)

const (
	least = math.MinInt
	most  = math.MaxInt
	cells = 32
)

// ends is numbers at the ends of 64 bits, and of fewer, where a number that is cut short would be a small one.
func ends() []int {
	return []int{least, least + 1, least + 2, least + 31, least + 32, -1 << 32, -1<<32 + 1, -1 << 31, -1 << 16, -256, 1 << 16, 1<<16 + 1, 1 << 31, 1 << 32, 1<<32 + 1, 1 << 62, most - 32, most - 31, most - 30, most - 1, most}
}

// seen is what is to be seen of a page.
type seen struct {
	tag    string
	owners int
	cells  [cells]int64
}

// view is all that is to be seen of a pool.
type view struct {
	all, free, aside int
	pages            []seen
}

// look is what the pool's own calls tell of it.
func look(p *pool.Pool) view {
	var v view
	v.all, v.free, v.aside = p.Sizes()
	for i := range v.all {
		one := seen{tag: p.Tag(i), owners: p.Owners(i)}
		for cell := range cells {
			one.cells[cell], _ = p.Get(i, cell)
		}
		v.pages = append(v.pages, one)
	}
	return v
}

// copied is a view that can be changed by itself.
func (v view) copied() view {
	v.pages = slices.Clone(v.pages)
	return v
}

// compare tells the first thing in which the pool is not what it must be.
func compare(t *testing.T, behind string, p *pool.Pool, want view) {
	t.Helper()
	got := look(p)
	if got.all != want.all || got.free != want.free || got.aside != want.aside {
		t.Fatalf("behind %s: sizes %d, %d, %d; want %d, %d, %d", behind, got.all, got.free, got.aside, want.all, want.free, want.aside)
	}
	for i := range want.pages {
		if got.pages[i] != want.pages[i] {
			t.Fatalf("behind %s: page %d is %v; want %v", behind, i, got.pages[i], want.pages[i])
		}
	}
}

// wantPlaced is what Place must answer of a pool, and the pool then.
func wantPlaced(v view, tag string, w []int8) (view, []int, api.Errno) {
	if tag == "" {
		return v, nil, api.ErrRange
	}
	need := len(w) / cells
	if len(w)%cells > 0 {
		need++
	}
	if v.free-v.aside < need {
		return v, nil, api.OutOfMemory
	}
	v = v.copied()
	var list []int
	for i := range v.pages {
		if len(list) == need {
			break
		}
		if v.pages[i].owners > 0 {
			continue
		}
		one := seen{tag: tag, owners: 1}
		for cell, x := range w[cells*len(list) : min(len(w), cells*len(list)+cells)] {
			one.cells[cell] = int64(x)
		}
		v.pages[i] = one
		list = append(list, i)
	}
	v.free -= need
	return v, list, api.OK
}

// wantFetched is what Fetch must answer of a pool.
func wantFetched(v view, pages []int, n int) ([]int8, api.Errno) {
	if n < 0 || n > cells*len(pages) {
		return nil, api.ErrRange
	}
	var all []int8
	for _, page := range pages {
		for cell := range cells {
			if len(all) == n {
				return all, api.OK
			}
			if page < 0 || page >= v.all || v.pages[page].owners == 0 {
				return nil, api.ErrNone
			}
			x := v.pages[page].cells[cell]
			if x != int64(int8(x)) {
				return nil, api.ErrRange
			}
			all = append(all, int8(x))
		}
	}
	return all, api.OK
}

// wantReleased is what Release must answer of a pool, and the pool then: a page that is dropped once too often is told by its owners, below 0.
func wantReleased(v view, pages []int) (view, api.Errno) {
	now := v.copied()
	for _, page := range pages {
		if page < 0 || page >= v.all {
			return v, api.ErrNone
		}
		now.pages[page].owners--
	}
	for i, one := range now.pages {
		if one.owners < 0 {
			return v, api.ErrNone
		}
		if one.owners == 0 && v.pages[i].owners > 0 {
			now.pages[i] = seen{}
			now.free++
		}
	}
	return now, api.OK
}

// few is the first members of a list, to be printed.
func few[T any](list []T) []T {
	return list[:min(len(list), 40)]
}

// short is a text that is not too long to print.
func short(s string) string {
	return s[:min(len(s), 20)]
}

// checkPlace calls Place, and holds its answer and the whole pool against what must be.
func checkPlace(t *testing.T, p *pool.Pool, tag string, w []int8) []int {
	t.Helper()
	then, want, e := wantPlaced(look(p), tag, w)
	got, ge := Place(p, tag, w)
	if ge != e || !slices.Equal(got, want) {
		t.Fatalf("Place of %d weights for %q: %v, error %d; want %v, error %d", len(w), short(tag), few(got), ge, few(want), e)
	}
	compare(t, "Place", p, then)
	return got
}

// checkFetch does the same of Fetch, which changes nothing.
func checkFetch(t *testing.T, p *pool.Pool, pages []int, n int) []int8 {
	t.Helper()
	ahead := look(p)
	want, e := wantFetched(ahead, pages, n)
	got, ge := Fetch(p, pages, n)
	if ge != e || !slices.Equal(got, want) {
		t.Fatalf("Fetch of %d weights from %v: %v, error %d; want %v, error %d", n, few(pages), few(got), ge, few(want), e)
	}
	compare(t, "Fetch", p, ahead)
	return got
}

// checkRelease does the same of Release.
func checkRelease(t *testing.T, p *pool.Pool, pages []int) {
	t.Helper()
	then, e := wantReleased(look(p), pages)
	if ge := Release(p, pages); ge != e {
		t.Fatalf("Release of %v: error %d; want error %d", few(pages), ge, e)
	}
	compare(t, "Release", p, then)
}

// refusePlace looks whether Place answers that error alone, and leaves the pool.
func refusePlace(t *testing.T, p *pool.Pool, tag string, w []int8, e api.Errno) {
	t.Helper()
	ahead := look(p)
	if got, ge := Place(p, tag, w); ge != e || len(got) != 0 {
		t.Errorf("Place of %d weights for %q: %v, error %d; want error %d", len(w), short(tag), few(got), ge, e)
	}
	compare(t, "a refused Place", p, ahead)
}

// refuseFetch looks whether Fetch answers that error alone, and leaves the pool.
func refuseFetch(t *testing.T, p *pool.Pool, pages []int, n int, e api.Errno) {
	t.Helper()
	ahead := look(p)
	if got, ge := Fetch(p, pages, n); ge != e || len(got) != 0 {
		t.Errorf("Fetch of %d weights from %v: %v, error %d; want error %d", n, few(pages), few(got), ge, e)
	}
	compare(t, "a refused Fetch", p, ahead)
}

// refuseRelease looks whether Release answers ErrNone, and leaves the pool.
func refuseRelease(t *testing.T, p *pool.Pool, pages []int) {
	t.Helper()
	ahead := look(p)
	if e := Release(p, pages); e != api.ErrNone {
		t.Errorf("Release of %v: error %d", few(pages), e)
	}
	compare(t, "a refused Release", p, ahead)
}

// start is a new pool.
func start(t *testing.T, n int) *pool.Pool {
	t.Helper()
	p, e := pool.New(n)
	if e != api.OK {
		t.Fatalf("a pool of %d pages: error %d", n, e)
	}
	return p
}

// must stops the test at an error of the pool's own.
func must(t *testing.T, e api.Errno) {
	t.Helper()
	if e != api.OK {
		t.Fatalf("the pool's error %d", e)
	}
}

// take takes pages of the pool, and fills their cells with numbers that are no weights.
func take(t *testing.T, p *pool.Pool, tag string, k int) []int {
	t.Helper()
	pages, e := p.Take(tag, k)
	must(t, e)
	for _, page := range pages {
		for cell := range cells {
			must(t, p.Put(page, cell, int64(1000*(page+1)+cell)))
		}
	}
	return pages
}

// drop drops pages by the pool's own call.
func drop(t *testing.T, p *pool.Pool, pages ...int) {
	t.Helper()
	for _, page := range pages {
		must(t, p.Drop(page))
	}
}

// share gives a page so many owners more.
func share(t *testing.T, p *pool.Pool, page, times int) {
	t.Helper()
	for range times {
		must(t, p.Share(page))
	}
}

// dice is numbers of all kinds, the same ones each time for a seed.
type dice uint64

// below is a number from 0 to n - 1.
func (d *dice) below(n int) int {
	x := uint64(*d)
	x ^= x << 13
	x ^= x >> 7
	x ^= x << 17
	*d = dice(x)
	return int(x >> 33 % uint64(n))
}

// weights is so many weights of all kinds.
func weights(count, seed int) []int8 {
	d := dice(88172645463325252 + uint64(seed)<<32)
	w := make([]int8, count)
	for i := range w {
		w[i] = int8(d.below(256) - 128)
	}
	return w
}

// counts is counts of weights about whole pages.
func counts() []int {
	return []int{0, 1, 2, 31, 32, 33, 40, 63, 64, 65, 95, 96, 97, 255, 256, 257}
}

// 12.1: Need below 1, at whole pages and beside them, and at the ends.
func TestNeed(t *testing.T) {
	want := map[int]int{
		-33: 0, -32: 0, -31: 0, -2: 0, -1: 0, 0: 0,
		1: 1, 2: 1, 30: 1, 31: 1, 32: 1, 33: 2, 34: 2, 63: 2, 64: 2, 65: 3, 95: 3, 96: 3, 97: 4,
		8160: 255, 8161: 256, 8191: 256, 8192: 256, 8193: 257, 1 << 20: 1 << 15, 1<<20 + 1: 1<<15 + 1,
		1<<31 - 1: 1 << 26, 1 << 31: 1 << 26, 1<<31 + 1: 1<<26 + 1, 1<<32 + 1: 1<<27 + 1, 1 << 62: 1 << 57, 1<<62 + 1: 1<<57 + 1,
		most: 1 << 58, most - 1: 1 << 58, most - 30: 1 << 58, most - 31: 1<<58 - 1, most - 32: 1<<58 - 1, most - 62: 1<<58 - 1, most - 63: 1<<58 - 2,
		least: 0, least + 1: 0, least + 31: 0, least + 32: 0, -1 << 32: 0, -1<<32 + 1: 0, -1 << 31: 0, -1<<31 + 1: 0,
	}
	for n, pages := range want {
		if got := Need(n); got != pages {
			t.Errorf("Need(%d): %d, want %d", n, got, pages)
		}
	}
}

// 12.1: so many pages have cells enough, and one fewer has not.
func TestNeedIsTheLeast(t *testing.T) {
	for n := 1; n <= 10000; n++ {
		if k := Need(n); k*cells < n || (k-1)*cells >= n {
			t.Errorf("Need(%d): %d", n, k)
		}
	}
}

// 12.1, 12.2: the chapter's example.
func TestExample(t *testing.T) {
	p := start(t, 4)
	w := weights(40, 1)
	if n := Need(33); n != 2 {
		t.Errorf("Need(33): %d", n)
	}
	pages, e := Place(p, "m", w)
	if e != api.OK || !slices.Equal(pages, []int{0, 1}) {
		t.Fatalf("Place: %v, error %d", pages, e)
	}
	if got, e := Fetch(p, pages, 40); e != api.OK || !slices.Equal(got, w) {
		t.Errorf("Fetch: %v, error %d; want %v", got, e, w)
	}
	refuseFetch(t, p, pages, 65, api.ErrRange)
}

// 12.1: Place at several counts: the pages, and each weight in its page and cell.
func TestPlace(t *testing.T) {
	for _, n := range counts() {
		p := start(t, 10)
		w := weights(n, 2)
		pages := checkPlace(t, p, "m", w)
		if len(pages) != Need(n) || p.Count("m") != Need(n) {
			t.Fatalf("Place of %d weights: %v, %d pages with the tag", n, pages, p.Count("m"))
		}
		for i, x := range w {
			if v, e := p.Get(pages[i/32], i%32); v != int64(x) || e != api.OK {
				t.Errorf("weight %d of %d: %d, error %d; want %d", i, n, v, e, x)
			}
		}
		for i, page := range pages {
			if page != i || p.Owners(page) != 1 || p.Tag(page) != "m" {
				t.Errorf("page %d of %d weights: number %d, %d owners, tag %q", i, n, page, p.Owners(page), p.Tag(page))
			}
		}
	}
}

// 12.1: weights from -128 to 127, each at several cells.
func TestPlaceAllWeights(t *testing.T) {
	for ahead := range 3 {
		p := start(t, 9)
		var w []int8
		for range ahead {
			w = append(w, 5)
		}
		for x := -128; x <= 127; x++ {
			w = append(w, int8(x))
		}
		pages := checkPlace(t, p, "m", w)
		for x := -128; x <= 127; x++ {
			at := ahead + x + 128
			if v, e := p.Get(pages[at/32], at%32); v != int64(x) || e != api.OK {
				t.Errorf("weight %d: %d, error %d", x, v, e)
			}
		}
		if got := checkFetch(t, p, pages, len(w)); !slices.Equal(got, w) {
			t.Errorf("fetched %v", got)
		}
	}
}

// 12.1: as many weights as the pages at hand hold, one fewer and one more, with pages that have owners and that are laid aside.
func TestPlaceAtHand(t *testing.T) {
	for _, all := range []int{1, 2, 7, 255, 256} {
		for used := 0; used <= all; used += 1 + all/3 {
			for aside := 0; used+aside <= all; aside += 1 + all/3 {
				room := cells * (all - used - aside)
				for _, n := range []int{room - 32, room - 31, room - 1, room} {
					if n < 0 {
						continue
					}
					p := start(t, all)
					take(t, p, "x", used)
					must(t, p.Reserve(aside))
					if pages := checkPlace(t, p, "m", weights(n, 3)); len(pages) != Need(n) {
						t.Errorf("%d weights with room for %d: %v", n, room, pages)
					}
				}
				p := start(t, all)
				take(t, p, "x", used)
				must(t, p.Reserve(aside))
				for _, n := range []int{room + 1, room + 2, room + 32, room + 33, cells*all + 1} {
					refusePlace(t, p, "m", weights(n, 3), api.OutOfMemory)
				}
			}
		}
	}
}

// 12.1: pages that are laid aside are not taken, and can be drawn behind it.
func TestPlaceLeavesTheLaidAside(t *testing.T) {
	p := start(t, 6)
	must(t, p.Reserve(2))
	checkPlace(t, p, "m", weights(100, 4))
	if all, free, aside := p.Sizes(); all != 6 || free != 2 || aside != 2 {
		t.Errorf("sizes %d, %d, %d", all, free, aside)
	}
	refusePlace(t, p, "m", weights(1, 4), api.OutOfMemory)
	if drawn, e := p.Draw("x", 2); e != api.OK || !slices.Equal(drawn, []int{4, 5}) {
		t.Errorf("drawn: %v, error %d", drawn, e)
	}
}

// 12.1: the empty tag is an error, of no weights too, and comes ahead of there being no room.
func TestPlaceEmptyTag(t *testing.T) {
	full := start(t, 2)
	take(t, full, "x", 2)
	laid := start(t, 2)
	must(t, laid.Reserve(2))
	for _, p := range []*pool.Pool{start(t, 2), full, laid} {
		for _, n := range []int{0, 1, 32, 64, 65, 10000} {
			refusePlace(t, p, "", weights(n, 5), api.ErrRange)
		}
		refusePlace(t, p, "", nil, api.ErrRange)
	}
}

// 12.1: no weights with a tag take no page, also where none is at hand.
func TestPlaceNothing(t *testing.T) {
	full := start(t, 2)
	take(t, full, "x", 2)
	laid := start(t, 2)
	must(t, laid.Reserve(2))
	for _, p := range []*pool.Pool{start(t, 2), full, laid} {
		ahead := look(p)
		for _, w := range [][]int8{nil, {}, weights(40, 5)[:0]} {
			if pages, e := Place(p, "m", w); len(pages) != 0 || e != api.OK {
				t.Errorf("Place of nothing: %v, error %d", pages, e)
			}
			compare(t, "Place of nothing", p, ahead)
		}
	}
}

// 12.1: behind the last weight the cells are 0, also where something lay there before.
func TestPlaceOverOldCells(t *testing.T) {
	for _, n := range counts() {
		p := start(t, 10)
		drop(t, p, take(t, p, "old", 10)...)
		pages := checkPlace(t, p, "m", weights(n, 6))
		for i := n; i < cells*len(pages); i++ {
			if v, e := p.Get(pages[i/32], i%32); v != 0 || e != api.OK {
				t.Errorf("cell %d behind %d weights: %d, error %d", i, n, v, e)
			}
		}
		if got := checkFetch(t, p, pages, cells*len(pages)); !slices.Equal(got[:n], weights(n, 6)) || slices.Max(append(got[n:], 0)) != 0 || slices.Min(append(got[n:], 0)) != 0 {
			t.Errorf("%d weights are fetched with those behind them as %v", n, got)
		}
	}
}

// 12.1: the same where more weights, and others, were placed and released before.
func TestPlaceOverOldWeights(t *testing.T) {
	for _, n := range counts() {
		p := start(t, 10)
		checkRelease(t, p, checkPlace(t, p, "old", weights(320, 7)))
		w := weights(n, 8)
		pages := checkPlace(t, p, "m", w)
		want := append(slices.Clone(w), make([]int8, cells*len(pages)-n)...)
		if got := checkFetch(t, p, pages, cells*len(pages)); !slices.Equal(got, want) {
			t.Errorf("%d weights over old ones: %v, want %v", n, got, want)
		}
	}
}

// 12.1: the free pages with the least numbers, rising, also where pages between them have owners.
func TestPlaceBetweenOthers(t *testing.T) {
	p := start(t, 10)
	take(t, p, "x", 9)
	drop(t, p, 7, 1, 4, 3)
	w := weights(150, 9)
	pages := checkPlace(t, p, "m", w)
	if !slices.Equal(pages, []int{1, 3, 4, 7, 9}) {
		t.Errorf("the pages are %v", pages)
	}
	for i, x := range w {
		if v, e := p.Get([]int{1, 3, 4, 7, 9}[i/32], i%32); v != int64(x) || e != api.OK {
			t.Errorf("weight %d: %d, error %d; want %d", i, v, e, x)
		}
	}
	checkRelease(t, p, pages)
	drop(t, p, 8)
	if pages := checkPlace(t, p, "m", w[:65]); !slices.Equal(pages, []int{1, 3, 4}) {
		t.Errorf("the pages are %v", pages)
	}
	if pages := checkPlace(t, p, "n", w[:65]); !slices.Equal(pages, []int{7, 8, 9}) {
		t.Errorf("the pages are %v", pages)
	}
	refusePlace(t, p, "m", w[:1], api.OutOfMemory)
}

// 12.1: a tag is any text that is not empty, and several Places may have the same one (R6: however long).
func TestPlaceTags(t *testing.T) {
	tags := []string{"a", "b", "A", " ", "\x00", "a\x00", "aa", "\xff", "ä", "model 1", strings.Repeat("a", 70000), strings.Repeat("a", 70001)}
	p := start(t, 4*len(tags))
	for range 2 {
		for i, tag := range tags {
			pages := checkPlace(t, p, tag, weights(33, i))
			if len(pages) != 2 || p.Tag(pages[0]) != tag || p.Tag(pages[1]) != tag {
				t.Errorf("the pages of %q: %v", short(tag), pages)
			}
		}
	}
	for _, tag := range tags {
		if n := p.Count(tag); n != 4 {
			t.Errorf("%d pages have the tag %q", n, short(tag))
		}
	}
}

// R6: more weights than any pool has cells.
func TestPlaceLong(t *testing.T) {
	p := start(t, 256)
	refusePlace(t, p, "m", weights(8193, 10), api.OutOfMemory)
	refusePlace(t, p, "m", make([]int8, 1<<22), api.OutOfMemory)
	refusePlace(t, p, "", make([]int8, 1<<22), api.ErrRange)
	w := weights(8192, 10)
	pages := checkPlace(t, p, "m", w)
	if got := checkFetch(t, p, pages, 8192); !slices.Equal(got, w) {
		t.Errorf("8192 weights are not fetched as they were placed")
	}
}

// 12.2: Fetch of counts within the pages' cells.
func TestFetch(t *testing.T) {
	p := start(t, 10)
	take(t, p, "x", 1)
	w := weights(256, 11)
	pages := checkPlace(t, p, "m", w)
	for n := 0; n <= 256; n++ {
		if got := checkFetch(t, p, pages, n); !slices.Equal(got, w[:n]) {
			t.Errorf("Fetch of %d: %v", n, got)
		}
	}
}

// 12.2: as many as the pages have cells, one more, and counts below 0 and at the ends.
func TestFetchRange(t *testing.T) {
	p := start(t, 5)
	w := weights(128, 12)
	pages := checkPlace(t, p, "m", w)
	for k := range 5 {
		if got := checkFetch(t, p, pages[:k], cells*k); !slices.Equal(got, w[:cells*k]) {
			t.Errorf("Fetch of %d pages: %v", k, got)
		}
		for _, n := range []int{cells*k + 1, cells*k + 2, cells*k + 31, cells*k + 32, cells*k + 33, 161, 1 << 20} {
			refuseFetch(t, p, pages[:k], n, api.ErrRange)
		}
		for _, n := range append(ends(), -1, -2, -31, -32, -33, -32*k, 1<<59, 1<<59+1, 1<<60, 1<<63-1-32*k) {
			if n != 0 {
				refuseFetch(t, p, pages[:k], n, api.ErrRange)
			}
		}
	}
}

// 12.2: no weights of no pages, and of pages that are wrong: nothing is asked of them.
func TestFetchNothing(t *testing.T) {
	p := start(t, 3)
	take(t, p, "x", 2)
	for _, pages := range [][]int{nil, {}, {0}, {1, 0}, {2}, {-1}, {3}, {least, most}, {0, 2, 3}} {
		if got, e := Fetch(p, pages, 0); len(got) != 0 || e != api.OK {
			t.Errorf("Fetch of nothing from %v: %v, error %d", pages, got, e)
		}
		refuseFetch(t, p, pages, -1, api.ErrRange)
		refuseFetch(t, p, pages, cells*len(pages)+1, api.ErrRange)
	}
}

// wrong is numbers of which a pool of n pages has no page.
func wrong(n int) []int {
	return append(ends(), -n, -2, -1, n, n+1, 2*n, 1<<16, 1<<32)
}

// 12.2: pages that are free, or that there are none of, are an error just where a weight of them is asked for.
func TestFetchOfNone(t *testing.T) {
	for _, size := range []int{4, 256} {
		p := start(t, size)
		w := weights(cells*size, 13)
		pages := checkPlace(t, p, "m", w)
		drop(t, p, 1)
		for _, bad := range append(wrong(size), 1) {
			refuseFetch(t, p, []int{bad}, 1, api.ErrNone)
			refuseFetch(t, p, []int{bad}, 32, api.ErrNone)
			refuseFetch(t, p, []int{bad}, 33, api.ErrRange)
			list := []int{pages[0], pages[2], bad, pages[3]}
			want := append(slices.Clone(w[:32]), w[64:96]...)
			for _, n := range []int{0, 1, 31, 32, 33, 63, 64} {
				if got := checkFetch(t, p, list, n); !slices.Equal(got, want[:n]) {
					t.Errorf("Fetch of %d from %v: %v", n, list, got)
				}
			}
			for _, n := range []int{65, 66, 95, 96, 97, 127, 128} {
				refuseFetch(t, p, list, n, api.ErrNone)
			}
			refuseFetch(t, p, list, 129, api.ErrRange)
			refuseFetch(t, p, list, -1, api.ErrRange)
		}
	}
}

// 12.2: all pages of a new pool are free; those that are laid aside too.
func TestFetchOfFree(t *testing.T) {
	p := start(t, 3)
	must(t, p.Reserve(2))
	for page := range 3 {
		refuseFetch(t, p, []int{page}, 1, api.ErrNone)
		refuseFetch(t, p, []int{page, page}, 64, api.ErrNone)
	}
}

// 12.2: numbers just within -128 to 127, just outside, and at the ends, at each of two pages' cells.
func TestFetchBounds(t *testing.T) {
	p := start(t, 2)
	pages := checkPlace(t, p, "m", weights(64, 14))
	right := []int64{-128, -127, -1, 0, 1, 126, 127}
	bad := []int64{-129, -130, 128, 129, 255, 256, 257, -255, -256, -257, 384, 65536, 1<<16 + 1, 1 << 32, 1<<32 + 5, -1 << 32, -1<<32 - 1, math.MaxInt32, math.MinInt32, math.MaxInt64, math.MaxInt64 - 1, math.MinInt64, math.MinInt64 + 1, math.MinInt64 + 128}
	for at := range 64 {
		old, e := p.Get(pages[at/32], at%32)
		must(t, e)
		for _, v := range right {
			must(t, p.Put(pages[at/32], at%32, v))
			if got := checkFetch(t, p, pages, 64); int64(got[at]) != v {
				t.Errorf("%d at %d is fetched as %d", v, at, got[at])
			}
		}
		for _, v := range bad {
			must(t, p.Put(pages[at/32], at%32, v))
			refuseFetch(t, p, pages, at+1, api.ErrRange)
			refuseFetch(t, p, pages, 64, api.ErrRange)
			if got := checkFetch(t, p, pages, at); len(got) != at {
				t.Errorf("with %d at %d the weights ahead of it are %v", v, at, got)
			}
		}
		must(t, p.Put(pages[at/32], at%32, old))
	}
}

// 12.2: of two faults the one of the earlier weight is told; the count comes ahead of all.
func TestFetchWhichFirst(t *testing.T) {
	p := start(t, 4)
	checkPlace(t, p, "m", weights(96, 15))
	must(t, p.Put(1, 31, 128))
	must(t, p.Put(2, 0, -129))
	for _, none := range append(wrong(4), 3) {
		refuseFetch(t, p, []int{1, none}, 64, api.ErrRange)
		refuseFetch(t, p, []int{1, none}, 33, api.ErrRange)
		refuseFetch(t, p, []int{2, none}, 64, api.ErrRange)
		refuseFetch(t, p, []int{none, 1}, 64, api.ErrNone)
		refuseFetch(t, p, []int{none, 2}, 33, api.ErrNone)
		refuseFetch(t, p, []int{0, none, 2}, 96, api.ErrNone)
		refuseFetch(t, p, []int{0, 2, none}, 96, api.ErrRange)
		refuseFetch(t, p, []int{none, 1}, 65, api.ErrRange)
		refuseFetch(t, p, []int{none, none, none}, 97, api.ErrRange)
		refuseFetch(t, p, []int{none}, -1, api.ErrRange)
		refuseFetch(t, p, []int{none}, least, api.ErrRange)
		refuseFetch(t, p, []int{none}, most, api.ErrRange)
		checkFetch(t, p, []int{1, none}, 31)
		checkFetch(t, p, []int{0, 1, none}, 63)
	}
}

// 12.2: pages in another order, pages of several tags, and a page that stands in the list more than once.
func TestFetchOrder(t *testing.T) {
	p := start(t, 6)
	w := append(weights(64, 16), weights(96, 17)...)
	checkPlace(t, p, "m", w[:64])
	checkPlace(t, p, "n", w[64:])
	part := func(page int) []int8 { return w[cells*page : cells*page+cells] }
	for _, pages := range [][]int{{0}, {4}, {1, 0}, {4, 3, 2, 1, 0}, {2, 0, 4}, {3, 3}, {0, 0, 0, 1, 0}, {1, 4, 1, 4, 1, 4}} {
		var want []int8
		for _, page := range pages {
			want = append(want, part(page)...)
		}
		for _, n := range []int{len(want), len(want) - 1, len(want) - 31, 1} {
			if got := checkFetch(t, p, pages, n); !slices.Equal(got, want[:n]) {
				t.Errorf("Fetch of %d from %v: %v, want %v", n, pages, got, want[:n])
			}
		}
		refuseFetch(t, p, pages, len(want)+1, api.ErrRange)
	}
}

// 12.2: Fetch of a page with several owners, and of pages that others laid.
func TestFetchOthers(t *testing.T) {
	p := start(t, 3)
	pages, e := p.Take("x", 2)
	must(t, e)
	for cell := range cells {
		must(t, p.Put(pages[1], cell, int64(cell-16)))
	}
	share(t, p, 1, 3)
	got := checkFetch(t, p, []int{1, 0}, 64)
	for i, x := range got {
		if want := max(-16, i-16); i < 32 && int(x) != want || i >= 32 && x != 0 {
			t.Errorf("weight %d: %d", i, x)
		}
	}
}

// R6: lists of pages that are longer than any pool, at their ends and beyond.
func TestFetchLong(t *testing.T) {
	p := start(t, 2)
	w := weights(32, 18)
	checkPlace(t, p, "m", w)
	pages := make([]int, 5000)
	got := checkFetch(t, p, pages, 160000)
	for i, x := range got {
		if x != w[i%32] {
			t.Fatalf("weight %d: %d, want %d", i, x, w[i%32])
		}
	}
	refuseFetch(t, p, pages, 160001, api.ErrRange)
	pages[4999] = 1
	refuseFetch(t, p, pages, 160000, api.ErrNone)
	checkFetch(t, p, pages, 159968)
	refuseFetch(t, p, pages, 159969, api.ErrNone)
}

// R1: a great count of a long list whose first page is free is refused without room for all of it.
func TestFetchGreatOfNone(t *testing.T) {
	p := start(t, 1)
	pages := make([]int, 1<<20)
	var ahead, behind runtime.MemStats
	runtime.ReadMemStats(&ahead)
	got, e := Fetch(p, pages, cells*len(pages))
	runtime.ReadMemStats(&behind)
	if len(got) != 0 || e != api.ErrNone {
		t.Errorf("Fetch of a free page: %d weights, error %d", len(got), e)
	}
	if room := behind.TotalAlloc - ahead.TotalAlloc; room > 1<<20 {
		t.Errorf("room of %d bytes is made", room)
	}
}

// 12.2: Release of no pages changes nothing.
func TestReleaseNothing(t *testing.T) {
	full := start(t, 2)
	take(t, full, "x", 2)
	for _, p := range []*pool.Pool{start(t, 2), full} {
		ahead := look(p)
		for _, pages := range [][]int{nil, {}} {
			if e := Release(p, pages); e != api.OK {
				t.Errorf("Release of nothing: error %d", e)
			}
			compare(t, "Release of nothing", p, ahead)
		}
	}
}

// 12.2: Release of pages with one owner each: they are free then, in whatever order they stand.
func TestRelease(t *testing.T) {
	for _, pages := range [][]int{{0}, {4}, {2, 3}, {3, 2}, {4, 0, 2}, {0, 1, 2, 3, 4}, {4, 3, 2, 1, 0}} {
		p := start(t, 6)
		take(t, p, "x", 5)
		if e := Release(p, pages); e != api.OK {
			t.Errorf("Release of %v: error %d", pages, e)
		}
		for page := range 6 {
			owners := 1
			if page == 5 || slices.Contains(pages, page) {
				owners = 0
			}
			if n := p.Owners(page); n != owners {
				t.Errorf("behind Release of %v page %d has %d owners", pages, page, n)
			}
		}
		if _, free, _ := p.Sizes(); free != 1+len(pages) {
			t.Errorf("behind Release of %v %d pages are free", pages, free)
		}
		refuseRelease(t, p, pages)
	}
}

// 12.2: pages with owners besides stay, with their tag and their cells.
func TestReleaseShared(t *testing.T) {
	p := start(t, 4)
	w := weights(96, 19)
	pages := checkPlace(t, p, "m", w)
	share(t, p, 1, 2)
	checkRelease(t, p, pages)
	if n, tag := p.Owners(1), p.Tag(1); n != 2 || tag != "m" {
		t.Errorf("page 1 has %d owners, tag %q", n, tag)
	}
	if got := checkFetch(t, p, []int{1}, 32); !slices.Equal(got, w[32:64]) {
		t.Errorf("page 1 holds %v", got)
	}
	refuseRelease(t, p, pages)
	checkRelease(t, p, []int{1})
	checkRelease(t, p, []int{1})
	if _, free, _ := p.Sizes(); free != 4 {
		t.Errorf("%d pages are free", free)
	}
	refuseRelease(t, p, []int{1})
}

// 12.2: a page that stands in the list as often as it has owners, fewer times, and once more.
func TestReleaseAsOftenAsOwned(t *testing.T) {
	for owners := 1; owners <= 6; owners++ {
		for times := 1; times <= owners+2; times++ {
			p := start(t, 3)
			take(t, p, "x", 3)
			share(t, p, 1, owners-1)
			list := slices.Repeat([]int{1}, times)
			if times > owners {
				refuseRelease(t, p, list)
				refuseRelease(t, p, append([]int{0, 2}, list...))
				refuseRelease(t, p, append(list, 0, 2))
				refuseRelease(t, p, slices.Insert(list, 1, 0))
				continue
			}
			checkRelease(t, p, list)
			if n := p.Owners(1); n != owners-times {
				t.Errorf("dropped %d of %d times: %d owners", times, owners, n)
			}
		}
	}
}

// 12.2: the same of several pages, mixed.
func TestReleaseMixed(t *testing.T) {
	made := func() *pool.Pool {
		p := start(t, 4)
		take(t, p, "x", 3)
		share(t, p, 0, 1)
		share(t, p, 2, 2)
		return p
	}
	p := made()
	checkRelease(t, p, []int{2, 0, 2, 1, 0, 2})
	if _, free, _ := p.Sizes(); free != 4 {
		t.Errorf("%d pages are free", free)
	}
	for _, list := range [][]int{{2, 0, 2, 1, 0, 2, 1}, {0, 1, 0, 2, 0}, {2, 2, 2, 2}, {1, 0, 1}, {1, 2, 3}, {3}, {0, 1, 2, 4}} {
		refuseRelease(t, made(), list)
	}
	p = made()
	checkRelease(t, p, []int{2, 0, 2})
	if a, b, c := p.Owners(0), p.Owners(1), p.Owners(2); a != 1 || b != 1 || c != 1 {
		t.Errorf("owners: %d, %d, %d", a, b, c)
	}
}

// 12.2: pages that are free, and that there are none of, wherever they stand in the list: nothing happens.
func TestReleaseOfNone(t *testing.T) {
	for _, size := range []int{6, 256} {
		p := start(t, size)
		take(t, p, "x", size)
		share(t, p, 0, 1)
		drop(t, p, 5)
		for _, bad := range append(wrong(size), 5) {
			refuseRelease(t, p, []int{bad})
			refuseRelease(t, p, []int{bad, bad})
			for at := range 5 {
				refuseRelease(t, p, slices.Insert([]int{0, 3, 1, 0}, at, bad))
			}
		}
	}
	empty := start(t, 3)
	must(t, empty.Reserve(1))
	for page := range 3 {
		refuseRelease(t, empty, []int{page})
	}
}

// 12.2: pages that are laid aside stay so many.
func TestReleaseLeavesTheLaidAside(t *testing.T) {
	p := start(t, 6)
	must(t, p.Reserve(2))
	pages := checkPlace(t, p, "m", weights(128, 20))
	checkRelease(t, p, pages)
	if all, free, aside := p.Sizes(); all != 6 || free != 6 || aside != 2 {
		t.Errorf("sizes %d, %d, %d", all, free, aside)
	}
	refusePlace(t, p, "m", weights(129, 20), api.OutOfMemory)
}

// R6: long lists of pages to release.
func TestReleaseLong(t *testing.T) {
	const times = 70000
	p := start(t, 2)
	take(t, p, "x", 1)
	share(t, p, 0, times-1)
	list := make([]int, times)
	refuseRelease(t, p, append(list, 0))
	refuseRelease(t, p, append(list, 1))
	checkRelease(t, p, list[1:])
	if n := p.Owners(0); n != 1 {
		t.Errorf("%d owners", n)
	}
	refuseRelease(t, p, list)
	checkRelease(t, p, list[:1])
	refuseRelease(t, p, list)
}

// 12.3: what was placed is fetched, and released the pool has as many free pages as ahead, at all counts of some pages.
func TestPlacedIsFetched(t *testing.T) {
	for n := 0; n <= 200; n++ {
		for used := range 3 {
			p := start(t, 10)
			take(t, p, "x", 2*used)
			for page := range used {
				drop(t, p, 2*page)
			}
			ahead := look(p)
			w := weights(n, n)
			pages := checkPlace(t, p, "m", w)
			if got := checkFetch(t, p, pages, n); !slices.Equal(got, w) {
				t.Errorf("%d weights: fetched %v, placed %v", n, got, w)
			}
			checkRelease(t, p, pages)
			compare(t, "Place, Fetch and Release", p, ahead)
		}
	}
}

// placed is weights that lie in a pool.
type placed struct {
	pages []int
	w     []int8
}

// 12.3: the same over long rows of calls, with several tags in one pool.
func TestManyPlaced(t *testing.T) {
	tags := []string{"a", "b", "c", "d"}
	for _, all := range []int{1, 3, 12, 60, 256} {
		d := dice(362436069 + uint64(all))
		p := start(t, all)
		must(t, p.Reserve(all/4))
		var there []placed
		refused := 0
		for step := range 400 {
			w := weights(d.below(20+6*all), step)
			_, free, aside := p.Sizes()
			if pages := checkPlace(t, p, tags[d.below(4)], w); Need(len(w)) <= free-aside {
				there = append(there, placed{pages, w})
			} else {
				refused++
			}
			for range 1 + d.below(2) {
				if len(there) > 0 && d.below(5) < 3 {
					there = releaseOne(t, p, there, d.below(len(there)))
				}
			}
			for _, one := range there {
				if got := checkFetch(t, p, one.pages, len(one.w)); !slices.Equal(got, one.w) {
					t.Fatalf("step %d: fetched %v, placed %v", step, got, one.w)
				}
			}
		}
		for len(there) > 0 {
			there = releaseOne(t, p, there, len(there)-1)
		}
		if _, free, aside := p.Sizes(); free != all || aside != all/4 || refused == 0 {
			t.Errorf("%d pages: %d are free, %d laid aside; %d calls were refused", all, free, aside, refused)
		}
	}
}

// releaseOne releases one of those that are there: its pages are free then.
func releaseOne(t *testing.T, p *pool.Pool, there []placed, which int) []placed {
	t.Helper()
	_, ahead, _ := p.Sizes()
	checkRelease(t, p, there[which].pages)
	if _, free, _ := p.Sizes(); free != ahead+Need(len(there[which].w)) {
		t.Fatalf("%d pages are free, %d ahead of the release of %d", free, ahead, len(there[which].pages))
	}
	return slices.Delete(there, which, which+1)
}

// 12.3: two that share pages: what the first one releases stays for the second.
func TestSharedIsFetched(t *testing.T) {
	p := start(t, 5)
	w := weights(100, 21)
	pages := checkPlace(t, p, "m", w)
	for _, page := range pages {
		share(t, p, page, 1)
	}
	checkRelease(t, p, pages)
	if got := checkFetch(t, p, pages, 100); !slices.Equal(got, w) {
		t.Errorf("fetched %v", got)
	}
	checkRelease(t, p, pages)
	if _, free, _ := p.Sizes(); free != 5 {
		t.Errorf("%d pages are free", free)
	}
	refuseFetch(t, p, pages, 100, api.ErrNone)
}

// 12.2: all short lists of pages that are right, free or none, held against the reference.
func TestAllShortLists(t *testing.T) {
	numbers := []int{-1, 0, 1, 2, 3, 4}
	for row := range 6 * 6 * 6 * 6 {
		list := []int{numbers[row%6], numbers[row/6%6], numbers[row/36%6], numbers[row/216]}
		for k := range 5 {
			p := start(t, 4)
			checkPlace(t, p, "m", weights(96, row))
			share(t, p, 1, 1)
			must(t, p.Put(2, 31, 128))
			for _, n := range []int{cells*k - 1, cells * k, cells*k + 1} {
				checkFetch(t, p, list[:k], n)
			}
			checkRelease(t, p, list[:k])
		}
	}
}

// roomy is a copy of a list, with spare room behind it in which something lies.
func roomy[T any](list []T, x T) []T {
	room := append(slices.Clone(list), slices.Repeat([]T{x}, 40)...)
	return room[:len(list)]
}

// R4: what is handed in is not changed, nor what lies in the spare room behind it, whether it is refused or not.
func TestNothingChanged(t *testing.T) {
	for _, n := range counts() {
		for _, size := range []int{1, 3, 9} {
			p := start(t, size)
			w := roomy(weights(n, 22), 77)
			ahead := slices.Clone(w[:cap(w)])
			pages, e := Place(p, "m", w)
			if !slices.Equal(w[:cap(w)], ahead) {
				t.Fatalf("Place of %d, error %d: the weights are changed", n, e)
			}
			for _, list := range [][]int{pages, append(slices.Clone(pages), -1), append(slices.Clone(pages), pages...), {size, 0}} {
				checkLeft(t, p, list, n)
			}
		}
	}
}

// checkLeft fetches from pages and releases them, and looks whether the list is as it was.
func checkLeft(t *testing.T, p *pool.Pool, pages []int, n int) {
	t.Helper()
	list := roomy(pages, 0)
	ahead := slices.Clone(list[:cap(list)])
	for _, k := range []int{n, 0, cells * len(list), cells*len(list) + 1, -1} {
		Fetch(p, list, k)
	}
	Release(p, list)
	if !slices.Equal(list[:cap(list)], ahead) {
		t.Fatalf("the pages %v are changed", pages)
	}
}

// spoil writes over a list, and over the spare room behind it.
func spoil[T any](list []T, x T) {
	list = list[:cap(list)]
	for i := range list {
		list[i] = x
	}
}

// R4: answers share no memory with what is kept, with what was handed in, and with one another.
func TestAnswersAreNew(t *testing.T) {
	for _, n := range []int{1, 31, 32, 33, 64, 100} {
		p := start(t, 12)
		w := weights(n, 23)
		pages := checkPlace(t, p, "m", w)
		kept := slices.Clone(pages)
		other := checkPlace(t, p, "n", weights(n, 24))
		then := look(p)
		spoil(other, -7)
		compare(t, "a change of Place's answer", p, then)
		first := checkFetch(t, p, pages, n)
		second := checkFetch(t, p, pages, n)
		spoil(second, 99)
		compare(t, "a change of Fetch's answer", p, then)
		if !slices.Equal(first, w) || !slices.Equal(pages, kept) {
			t.Errorf("%d weights: %v from %v, behind changes of other answers", n, first, pages)
		}
		spoil(w, 98)
		if !slices.Equal(first, weights(n, 23)) {
			t.Errorf("%d weights: %v, behind a change of what was placed", n, first)
		}
		compare(t, "a change of what was placed", p, then)
		spoil(pages, 11)
		if got := checkFetch(t, p, kept, n); !slices.Equal(got, weights(n, 23)) || !slices.Equal(first, got) {
			t.Errorf("%d weights: %v and %v, behind changes of all lists", n, first, got)
		}
	}
}

// R4: what is handed to Release is not kept.
func TestReleaseKeepsNothing(t *testing.T) {
	p := start(t, 4)
	take(t, p, "x", 4)
	list := []int{0, 2}
	checkRelease(t, p, list)
	then := look(p)
	spoil(list, 1)
	compare(t, "a change of what was released", p, then)
}

// 12.1, 12.2: each pool is by itself.
func TestPoolsAreApart(t *testing.T) {
	one, two := start(t, 4), start(t, 4)
	w, x := weights(70, 25), weights(50, 26)
	a := checkPlace(t, one, "m", w)
	b := checkPlace(t, two, "m", x)
	if got := checkFetch(t, one, a, 70); !slices.Equal(got, w) {
		t.Errorf("the first pool holds %v", got)
	}
	if got := checkFetch(t, two, b, 50); !slices.Equal(got, x) {
		t.Errorf("the second pool holds %v", got)
	}
	checkRelease(t, one, a)
	if got := checkFetch(t, two, b, 50); !slices.Equal(got, x) {
		t.Errorf("the second pool holds %v", got)
	}
	refuseRelease(t, one, a)
}
