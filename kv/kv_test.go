package kv

import (
	"math"
	"slices"
	"strings"
	"testing"

	"aviary/api"
	"aviary/pool"
)

const (
	least = math.MinInt
	most  = math.MaxInt
	cells = 32
)

// ends is numbers at the ends of 64 bits, and of fewer, where a number that is cut short would be a small one.
func ends() []int {
	return []int{least, least + 1, least + 2, least + 32, -1 << 32, -1<<32 + 1, -1 << 31, -1 << 16, -256, 1 << 16, 1<<16 + 1, 1 << 31, 1 << 32, 1<<32 + 1, 1 << 62, most - 32, most - 1, most}
}

// seen is what is to be seen of a page.
type seen struct {
	tag    string
	owners int
	cells  [cells]int64
}

// view is all that is to be seen of a pool.
type view struct {
	all, free, aside int
	pages            []seen
}

// look is what the pool's own calls tell of it.
func look(p *pool.Pool) view {
	var v view
	v.all, v.free, v.aside = p.Sizes()
	for i := range v.all {
		one := seen{tag: p.Tag(i), owners: p.Owners(i)}
		for cell := range cells {
			one.cells[cell], _ = p.Get(i, cell)
		}
		v.pages = append(v.pages, one)
	}
	return v
}

// compare tells the first thing in which the pool is not what it must be.
func compare(t *testing.T, behind string, p *pool.Pool, want view) {
	t.Helper()
	got := look(p)
	if got.all != want.all || got.free != want.free || got.aside != want.aside {
		t.Fatalf("behind %s: sizes %d, %d, %d; want %d, %d, %d", behind, got.all, got.free, got.aside, want.all, want.free, want.aside)
	}
	for i := range want.pages {
		if got.pages[i] != want.pages[i] {
			t.Fatalf("behind %s: page %d is %v; want %v", behind, i, got.pages[i], want.pages[i])
		}
	}
}

// leaf is a page that a sequence has, with its rows.
type leaf struct {
	number int
	rows   [][]int64
}

// book is a sequence as it must be: rows that are gone are counted alone.
type book struct {
	tag    string
	width  int
	gone   int
	leaves []leaf
}

// rows is how many rows are there.
func (b *book) rows() int {
	n := 0
	for _, one := range b.leaves {
		n += len(one.rows)
	}
	return n
}

// pages is the numbers of the pages.
func (b *book) pages() []int {
	var list []int
	for _, one := range b.leaves {
		list = append(list, one.number)
	}
	return list
}

// open is the page into which the next row goes, or nil.
func (b *book) open() *leaf {
	if len(b.leaves) == 0 {
		return nil
	}
	one := &b.leaves[len(b.leaves)-1]
	if (len(one.rows)+1)*b.width > cells {
		return nil
	}
	return one
}

// takeOne takes the free page with the least number, if one is at hand.
func (v *view) takeOne(tag string) (int, bool) {
	if v.free == v.aside {
		return 0, false
	}
	for i := range v.pages {
		if v.pages[i].owners == 0 {
			v.pages[i] = seen{tag: tag, owners: 1}
			v.free--
			return i, true
		}
	}
	return 0, false
}

// dropOne takes an owner from a page.
func (v *view) dropOne(page int) {
	v.pages[page].owners--
	if v.pages[page].owners == 0 {
		v.pages[page] = seen{}
		v.free++
	}
}

// wantNeed is what Need must answer.
func wantNeed(v view, b *book) int {
	one := b.open()
	if one != nil && v.pages[one.number].owners == 1 {
		return 0
	}
	return 1
}

// wantAppended is what Append must answer, and makes of the pool and the sequence what they must be then.
func wantAppended(v *view, b *book, row []int64) api.Errno {
	if len(row) != b.width {
		return api.ErrShape
	}
	one := b.open()
	if wantNeed(*v, b) == 1 {
		page, ok := v.takeOne(b.tag)
		if !ok {
			return api.OutOfMemory
		}
		if one == nil {
			b.leaves = append(b.leaves, leaf{number: page})
			one = b.open()
		} else {
			v.pages[page].cells = v.pages[one.number].cells
			v.dropOne(one.number)
			one.number = page
		}
	}
	copy(v.pages[one.number].cells[len(one.rows)*b.width:], row)
	one.rows = append(one.rows, slices.Clone(row))
	return api.OK
}

// wantForked is the sequence that Fork must answer.
func wantForked(v *view, b *book) *book {
	fork := *b
	fork.leaves = nil
	for _, one := range b.leaves {
		v.pages[one.number].owners++
		fork.leaves = append(fork.leaves, leaf{one.number, slices.Clone(one.rows)})
	}
	return &fork
}

// wantKept makes of the pool and the sequence what they must be behind Keep: each row of a page is asked by itself.
func wantKept(v *view, b *book, n int) {
	n = max(n, 0)
	for len(b.leaves) > 0 && b.open() != &b.leaves[0] {
		for i := range b.leaves[0].rows {
			if b.gone+i >= b.gone+b.rows()-n {
				return
			}
		}
		v.dropOne(b.leaves[0].number)
		b.gone += len(b.leaves[0].rows)
		b.leaves = b.leaves[1:]
	}
}

// wantReleased does the same of Release.
func wantReleased(v *view, b *book) {
	for _, one := range b.leaves {
		v.dropOne(one.number)
	}
	b.gone += b.rows()
	b.leaves = nil
}

// short is a row that is not too long to print.
func short(row []int64) []int64 {
	return row[:min(len(row), 40)]
}

// checkRow holds a row against what must be.
func checkRow(t *testing.T, behind string, s *Seq, b *book, i int) {
	t.Helper()
	var want []int64
	e := api.ErrNone
	number := b.gone
	for _, one := range b.leaves {
		for _, row := range one.rows {
			if number == i {
				want, e = row, api.OK
			}
			number++
		}
	}
	if got, ge := s.Row(i); ge != e || !slices.Equal(got, want) {
		t.Fatalf("behind %s: Row(%d) of %d from %d on: %v, error %d; want %v, error %d", behind, i, s.Len(), s.First(), short(got), ge, want, e)
	}
}

// checkSeq holds all that is to be seen of a sequence against what must be.
func checkSeq(t *testing.T, behind string, s *Seq, v view, b *book) {
	t.Helper()
	if n := s.Len(); n != b.gone+b.rows() {
		t.Fatalf("behind %s: Len %d, want %d", behind, n, b.gone+b.rows())
	}
	if n := s.First(); n != b.gone {
		t.Fatalf("behind %s: First %d, want %d", behind, n, b.gone)
	}
	if pages := s.Pages(); !slices.Equal(pages, b.pages()) {
		t.Fatalf("behind %s: Pages %v, want %v", behind, pages, b.pages())
	}
	if n := s.Need(); n != wantNeed(v, b) {
		t.Fatalf("behind %s: Need %d, want %d", behind, n, wantNeed(v, b))
	}
	for i := -2; i < b.gone+b.rows()+3; i++ {
		checkRow(t, behind, s, b, i)
	}
}

// pair is a sequence, and what it must be.
type pair struct {
	s *Seq
	b *book
}

// desk is a pool and its sequences, each beside what it must be.
type desk struct {
	t    *testing.T
	p    *pool.Pool
	v    view
	all  []*pair
	next int64
}

// start is a desk with a new pool.
func start(t *testing.T, pages int) *desk {
	t.Helper()
	p, e := pool.New(pages)
	if e != api.OK {
		t.Fatalf("a pool of %d pages: error %d", pages, e)
	}
	return &desk{t: t, p: p, v: look(p), next: 1}
}

// check holds the pool and all sequences against what must be.
func (d *desk) check(behind string) {
	d.t.Helper()
	compare(d.t, behind, d.p, d.v)
	for _, one := range d.all {
		checkSeq(d.t, behind, one.s, d.v, one.b)
	}
	compare(d.t, "what was asked behind "+behind, d.p, d.v)
}

// again is for what the test did with the pool itself.
func (d *desk) again() {
	d.v = look(d.p)
}

// must stops the test at an error of the pool's own.
func (d *desk) must(e api.Errno) {
	d.t.Helper()
	if e != api.OK {
		d.t.Fatalf("the pool's error %d", e)
	}
	d.again()
}

// occupy takes pages of the pool for somebody else, so that so many are at hand.
func (d *desk) occupy(left int) []int {
	d.t.Helper()
	pages, e := d.p.Take("other", d.v.free-d.v.aside-left)
	d.must(e)
	for _, page := range pages {
		for cell := range cells {
			d.must(d.p.Put(page, cell, int64(1000*(page+1)+cell)))
		}
	}
	return pages
}

// free drops pages by the pool's own call.
func (d *desk) free(pages ...int) {
	d.t.Helper()
	for _, page := range pages {
		d.must(d.p.Drop(page))
	}
}

// seq is a new sequence.
func (d *desk) seq(tag string, width int) *pair {
	d.t.Helper()
	s, e := New(d.p, tag, width)
	if e != api.OK || s == nil {
		d.t.Fatalf("New with the width %d: one %t, error %d", width, s != nil, e)
	}
	one := &pair{s, &book{tag: tag, width: width}}
	d.all = append(d.all, one)
	d.check("New")
	return one
}

// row is a row of numbers that stand in no other row.
func (d *desk) row(width int) []int64 {
	row := make([]int64, width)
	for i := range row {
		row[i] = d.next*100 + int64(i)
		if d.next%3 == 0 {
			row[i] = -row[i]
		}
	}
	d.next++
	return row
}

// add appends a row, and holds the answer and all there is against what must be.
func (d *desk) add(one *pair, row []int64) api.Errno {
	d.t.Helper()
	need := one.s.Need()
	_, free, _ := d.p.Sizes()
	e := wantAppended(&d.v, one.b, row)
	if ge := one.s.Append(row); ge != e {
		d.t.Fatalf("Append of %v: error %d; want error %d", short(row), ge, e)
	}
	d.check("Append")
	if e == api.OK && need == 0 && d.v.free != free {
		d.t.Fatalf("Need was 0, and a page was taken")
	}
	return e
}

// fill appends so many rows.
func (d *desk) fill(one *pair, rows int) {
	d.t.Helper()
	for range rows {
		if e := d.add(one, d.row(one.b.width)); e != api.OK {
			d.t.Fatalf("Append: error %d", e)
		}
	}
}

// refuse looks whether Append answers that error, and changes nothing.
func (d *desk) refuse(one *pair, row []int64, e api.Errno) {
	d.t.Helper()
	ahead := look(d.p)
	if ge := one.s.Append(row); ge != e {
		d.t.Errorf("Append of %d numbers to rows of %d: error %d; want error %d", len(row), one.b.width, ge, e)
	}
	compare(d.t, "a refused Append", d.p, ahead)
	d.check("a refused Append")
}

// fork forks a sequence.
func (d *desk) fork(one *pair) *pair {
	d.t.Helper()
	b := wantForked(&d.v, one.b)
	s := one.s.Fork()
	if s == nil || s == one.s {
		d.t.Fatalf("Fork: %p of %p", s, one.s)
	}
	two := &pair{s, b}
	d.all = append(d.all, two)
	d.check("Fork")
	return two
}

// keep keeps so many rows.
func (d *desk) keep(one *pair, n int) {
	d.t.Helper()
	wantKept(&d.v, one.b, n)
	one.s.Keep(n)
	d.check("Keep")
}

// release releases a sequence.
func (d *desk) release(one *pair) {
	d.t.Helper()
	wantReleased(&d.v, one.b)
	one.s.Release()
	d.check("Release")
}

// expect looks at a sequence's numbers, as they are written in the test.
func (d *desk) expect(one *pair, length, first int, pages ...int) {
	d.t.Helper()
	if n, f, l := one.s.Len(), one.s.First(), one.s.Pages(); n != length || f != first || !slices.Equal(l, pages) {
		d.t.Errorf("Len %d, First %d, Pages %v; want %d, %d, %v", n, f, l, length, first, pages)
	}
}

// expectOwners looks how many owners the pages from 0 on have.
func (d *desk) expectOwners(owners ...int) {
	d.t.Helper()
	for page, n := range owners {
		if got := d.p.Owners(page); got != n {
			d.t.Errorf("page %d has %d owners, want %d", page, got, n)
		}
	}
}

// dice is numbers of all kinds, the same ones each time for a seed.
type dice uint64

// below is a number from 0 to n - 1.
func (d *dice) below(n int) int {
	x := uint64(*d)
	x ^= x << 13
	x ^= x >> 7
	x ^= x << 17
	*d = dice(x)
	return int(x >> 33 % uint64(n))
}

// 13.1 to 13.3: the chapter's example.
func TestExample(t *testing.T) {
	d := start(t, 8)
	s := d.seq("r", 16)
	d.fill(s, 3)
	d.expect(s, 3, 0, 0, 1)
	f := d.fork(s)
	if a, b := s.s.Need(), f.s.Need(); a != 1 || b != 1 {
		t.Errorf("Need: %d and %d", a, b)
	}
	d.expectOwners(2, 2, 0)
	d.fill(s, 1)
	if n := d.p.Count("r"); n != 3 {
		t.Errorf("%d pages are in use", n)
	}
	if _, free, _ := d.p.Sizes(); free != 5 {
		t.Errorf("%d pages are free", free)
	}
	d.expect(s, 4, 0, 0, 2)
	d.expect(f, 3, 0, 0, 1)
	d.expectOwners(2, 1, 1, 0)
	if n := f.s.Need(); n != 0 {
		t.Errorf("Need of the other: %d", n)
	}
}

// 13.1: the empty tag, whatever the width, and widths within 1 to 32, beside them and at the ends.
func TestNew(t *testing.T) {
	d := start(t, 2)
	for _, tag := range []string{"a", " ", "\x00", "\xff\xfe", strings.Repeat("long", 50000)} {
		for width := 1; width <= 32; width++ {
			d.all = nil
			one := d.seq(tag, width)
			d.expect(one, 0, 0)
		}
		for _, width := range append(ends(), -33, -32, -31, -2, -1, 0, 33, 34, 63, 64, 65) {
			if s, e := New(d.p, tag, width); s != nil || e != api.ErrRange {
				t.Errorf("New with the width %d: one %t, error %d", width, s != nil, e)
			}
		}
	}
	for _, width := range append(ends(), -1, 0, 1, 2, 16, 31, 32, 33) {
		if s, e := New(d.p, "", width); s != nil || e != api.ErrRange {
			t.Errorf("New with the empty tag and the width %d: one %t, error %d", width, s != nil, e)
		}
	}
	d.check("New")
}

// 13.1: a new sequence takes no page, also where none is at hand, and none has rows of another one.
func TestNewIsEmpty(t *testing.T) {
	d := start(t, 3)
	one := d.seq("a", 8)
	d.fill(one, 9)
	two := d.seq("a", 8)
	d.expect(two, 0, 0)
	if row, e := two.s.Row(0); len(row) != 0 || e != api.ErrNone {
		t.Errorf("Row(0) of a new one: %v, error %d", row, e)
	}
	full := start(t, 1)
	full.occupy(0)
	full.expect(full.seq("a", 32), 0, 0)
	laid := start(t, 1)
	laid.must(laid.p.Reserve(1))
	laid.expect(laid.seq("a", 1), 0, 0)
}

// 13.1: Len, First and Pages with no rows, with rows in one page and in several, with the first rows gone, and with all pages gone.
func TestLenFirstPages(t *testing.T) {
	d := start(t, 9)
	d.occupy(7)
	s := d.seq("a", 10)
	d.expect(s, 0, 0)
	d.fill(s, 1)
	d.expect(s, 1, 0, 2)
	d.fill(s, 2)
	d.expect(s, 3, 0, 2)
	d.fill(s, 1)
	d.expect(s, 4, 0, 2, 3)
	d.fill(s, 5)
	d.expect(s, 9, 0, 2, 3, 4)
	d.keep(s, 4)
	d.expect(s, 9, 3, 3, 4)
	d.keep(s, 3)
	d.expect(s, 9, 6, 4)
	d.keep(s, 0)
	d.expect(s, 9, 9)
	d.fill(s, 4)
	d.expect(s, 13, 9, 2, 3)
	d.release(s)
	d.expect(s, 13, 13)
	d.fill(s, 1)
	d.expect(s, 14, 13, 2)
}

// 13.1: the pages stand in the rows' order, which need not be that of their numbers.
func TestPagesInOrder(t *testing.T) {
	d := start(t, 6)
	others := d.occupy(0)
	s := d.seq("a", 32)
	for _, page := range []int{4, 1, 5, 0, 2} {
		d.free(others[page])
		d.fill(s, 1)
	}
	d.expect(s, 5, 0, 4, 1, 5, 0, 2)
	d.keep(s, 3)
	d.expect(s, 5, 2, 5, 0, 2)
	d.fill(s, 1)
	d.expect(s, 6, 2, 5, 0, 2, 1)
	d.fill(s, 1)
	d.expect(s, 7, 2, 5, 0, 2, 1, 4)
}

// spoil writes over a list, and over the spare room behind it.
func spoil[T any](list []T, x T) {
	list = list[:cap(list)]
	for i := range list {
		list[i] = x
	}
}

// 13.1, R4: what Pages and Row answer can be changed, without any change of the sequence, of the pool or of other answers.
func TestAnswersAreNew(t *testing.T) {
	for _, width := range []int{1, 5, 16, 32} {
		d := start(t, 20)
		s := d.seq("a", width)
		d.fill(s, 2*(32/width)+1)
		f := d.fork(s)
		for _, one := range []*pair{s, f} {
			pages, kept := one.s.Pages(), one.s.Pages()
			spoil(pages, 7)
			d.check("a change of the pages")
			if !slices.Equal(kept, []int{0, 1, 2}) {
				t.Errorf("the pages were %v, behind a change of others", kept)
			}
			spoil(append(one.s.Pages(), 5, 6), 9)
			d.check("a change of the pages behind their end")
			for i := range one.s.Len() {
				row, _ := one.s.Row(i)
				was := slices.Clone(row)
				second, _ := one.s.Row(i)
				spoil(second, -5)
				d.check("a change of a row")
				if !slices.Equal(row, was) {
					t.Errorf("row %d: %v, behind a change of another answer; %v ahead", i, row, was)
				}
			}
		}
		row, _ := s.s.Row(2)
		was := slices.Clone(row)
		d.fill(s, 3)
		d.keep(s, 0)
		d.release(s)
		d.release(f)
		d.fill(d.seq("b", width), 5)
		if !slices.Equal(row, was) {
			t.Errorf("an answer is changed by what was called behind it: %v, %v ahead", row, was)
		}
	}
}

// 13.1: Row just within First to Len - 1 and outside, also with rows that are gone, at all widths.
func TestRow(t *testing.T) {
	for width := 1; width <= 32; width++ {
		d := start(t, 12)
		s := d.seq("a", width)
		rows := [][]int64{}
		per := 32 / width
		for range 3*per + 1 {
			row := d.row(width)
			rows = append(rows, row)
			if e := d.add(s, row); e != api.OK {
				t.Fatalf("Append: error %d", e)
			}
		}
		for first := 0; first <= 2*per; first += per {
			d.keep(s, len(rows)-first)
			d.expect(s, len(rows), first, []int{0, 1, 2, 3}[first/per:]...)
			for i, row := range rows {
				got, e := s.s.Row(i)
				if i < first && (len(got) != 0 || e != api.ErrNone) {
					t.Errorf("width %d: row %d, that is gone: %v, error %d", width, i, got, e)
				}
				if i >= first && (!slices.Equal(got, row) || e != api.OK) {
					t.Errorf("width %d: row %d: %v, error %d; want %v", width, i, got, e, row)
				}
			}
			for _, i := range append(ends(), -33, -2, -1, first-1, len(rows), len(rows)+1, len(rows)+per) {
				if got, e := s.s.Row(i); len(got) != 0 || e != api.ErrNone {
					t.Errorf("width %d: Row(%d) of %d from %d on: %v, error %d", width, i, len(rows), first, got, e)
				}
			}
		}
	}
}

// 13.1: Row of sequences without rows.
func TestRowOfNone(t *testing.T) {
	d := start(t, 3)
	s := d.seq("a", 16)
	look := func() {
		t.Helper()
		for _, i := range append(ends(), -3, -2, -1, 0, 1, 2, 3, 4, 5) {
			if got, e := s.s.Row(i); len(got) != 0 || e != api.ErrNone {
				t.Errorf("Row(%d) of none: %v, error %d", i, got, e)
			}
		}
	}
	look()
	d.fill(s, 4)
	d.keep(s, 0)
	look()
	d.fill(s, 1)
	d.release(s)
	look()
}

// 13.2: Need of a new sequence, with a page that is just full, with one that has room for one row more, and behind Keep and Release.
func TestNeed(t *testing.T) {
	for width := 1; width <= 32; width++ {
		per := 32 / width
		d := start(t, 8)
		s := d.seq("a", width)
		for i := range 3*per + 1 {
			want := 0
			if i%per == 0 {
				want = 1
			}
			if n := s.s.Need(); n != want {
				t.Errorf("width %d, %d rows: Need %d", width, i, n)
			}
			d.fill(s, 1)
		}
		want := 0
		if per == 1 {
			want = 1
		}
		d.keep(s, 1)
		if n := s.s.Need(); n != want {
			t.Errorf("width %d, behind Keep: Need %d", width, n)
		}
		d.release(s)
		if n := s.s.Need(); n != 1 {
			t.Errorf("width %d, behind Release: Need %d", width, n)
		}
		d.fill(s, per)
		d.keep(s, 0)
		if n := s.s.Need(); n != 1 {
			t.Errorf("width %d, with all pages gone: Need %d", width, n)
		}
	}
}

// 13.2: Need with another owner of the last page, be it a fork or somebody else, and of pages ahead of it.
func TestNeedOfShared(t *testing.T) {
	d := start(t, 8)
	s := d.seq("a", 16)
	d.fill(s, 3)
	need := func(why string, want int) {
		t.Helper()
		if n := s.s.Need(); n != want {
			t.Errorf("%s: Need %d, want %d", why, n, want)
		}
		d.check(why)
	}
	d.must(d.p.Share(0))
	need("the first page has another owner", 0)
	d.must(d.p.Share(1))
	need("the last page has another owner", 1)
	d.must(d.p.Share(1))
	need("the last page has two more", 1)
	d.free(1)
	need("one of them dropped it", 1)
	d.free(1)
	need("the other one, too", 0)
	f := d.fork(s)
	need("a fork is there", 1)
	d.release(f)
	need("the fork is released", 0)
	f = d.fork(s)
	d.keep(f, 0)
	need("the fork keeps the page into which its next row goes", 1)
	d.fill(f, 1)
	need("the fork went on to a page of its own", 0)
	d.fill(s, 1)
	need("the page is full", 1)
}

// 13.2: rows of fewer numbers, of more and of none: ErrShape, and nothing is changed.
func TestAppendShape(t *testing.T) {
	for width := 1; width <= 32; width++ {
		d := start(t, 6)
		s := d.seq("a", width)
		f := d.fork(s)
		for range 32/width + 2 {
			for _, n := range []int{width - 1, width + 1, 0, 2 * width, 32, 33, 100, 100000} {
				if n != width {
					d.refuse(s, make([]int64, n), api.ErrShape)
				}
			}
			d.refuse(s, nil, api.ErrShape)
			d.release(f)
			d.fill(s, 1)
			f = d.fork(s)
		}
	}
}

// 13.2: numbers at the ends of 64 bits are kept as they are.
func TestAppendEnds(t *testing.T) {
	numbers := []int64{math.MinInt64, math.MaxInt64, math.MinInt64 + 1, math.MaxInt64 - 1, -1, 0, 1, math.MinInt32, math.MaxInt32, math.MaxInt32 + 1, math.MinInt32 - 1, 1 << 62, 128, -129}
	for _, width := range []int{1, 2, 7, 14, 16, 32} {
		d := start(t, 40)
		s := d.seq("a", width)
		for i := range numbers {
			row := make([]int64, width)
			for k := range row {
				row[k] = numbers[(i+k)%len(numbers)]
			}
			if e := d.add(s, row); e != api.OK {
				t.Fatalf("Append: error %d", e)
			}
			if got, e := s.s.Row(i); e != api.OK || !slices.Equal(got, row) {
				t.Errorf("width %d: %v, error %d; want %v", width, got, e, row)
			}
		}
	}
}

// 13.2: each number lies in its page and cell, the cells behind are 0, and each page has the tag and one owner.
func TestAppendPlaces(t *testing.T) {
	for width := 1; width <= 32; width++ {
		per := 32 / width
		d := start(t, 7)
		d.free(d.occupy(0)...)
		d.occupy(5)
		s := d.seq("a", width)
		var want [5][cells]int64
		for i := range 4*per + 1 {
			row := d.row(width)
			if e := d.add(s, row); e != api.OK {
				t.Fatalf("Append: error %d", e)
			}
			copy(want[i/per][i%per*width:], row)
			for page, number := range s.s.Pages() {
				if number != page+2 || d.p.Owners(number) != 1 || d.p.Tag(number) != "a" {
					t.Fatalf("width %d: page %d: number %d, %d owners, tag %q", width, page, number, d.p.Owners(number), d.p.Tag(number))
				}
				if got := look(d.p).pages[number].cells; got != want[page] {
					t.Fatalf("width %d, row %d: page %d holds %v, want %v", width, i, page, got, want[page])
				}
			}
		}
	}
}

// 13.2: no page at hand for the first row, behind a full page, and for a row whose page has another owner, too; where the row has a place, none is needed.
func TestAppendNoRoom(t *testing.T) {
	for _, width := range []int{1, 5, 11, 16, 17, 32} {
		per := 32 / width
		for _, aside := range []int{0, 2} {
			d := start(t, 6)
			d.must(d.p.Reserve(aside))
			d.occupy(0)
			s := d.seq("a", width)
			d.refuse(s, d.row(width), api.OutOfMemory)
			d.free(3)
			d.fill(s, per)
			d.refuse(s, d.row(width), api.OutOfMemory)
			d.free(1)
			d.fill(s, 1)
			d.expect(s, per+1, 0, 3, 1)
			f := d.fork(s)
			d.refuse(s, d.row(width), api.OutOfMemory)
			d.refuse(f, d.row(width), api.OutOfMemory)
			d.release(f)
			for range per - 1 {
				d.fill(s, 1)
			}
			d.refuse(s, d.row(width), api.OutOfMemory)
			d.keep(s, per)
			d.fill(s, 1)
			d.expect(s, 2*per+1, per, 1, 3)
			if _, _, n := d.p.Sizes(); n != aside {
				t.Errorf("%d pages are laid aside, want %d", n, aside)
			}
		}
	}
}

// 13.2: where the row's page has somebody else as an owner, and none is at hand, the row is refused till that one drops it.
func TestAppendNoRoomForCopy(t *testing.T) {
	d := start(t, 2)
	s := d.seq("a", 8)
	d.fill(s, 6)
	d.must(d.p.Share(1))
	d.refuse(s, d.row(8), api.OutOfMemory)
	d.expectOwners(1, 2)
	d.free(1)
	d.fill(s, 1)
	d.expect(s, 7, 0, 0, 1)
}

// 13.2: a row of another length is ErrShape, also where there is no room; where there is, and behind it, the row is appended.
func TestAppendWhichError(t *testing.T) {
	for _, width := range []int{1, 16, 32} {
		d := start(t, 2)
		d.occupy(0)
		s := d.seq("a", width)
		for _, n := range []int{0, width - 1, width + 1} {
			d.refuse(s, make([]int64, n), api.ErrShape)
		}
		d.refuse(s, make([]int64, width), api.OutOfMemory)
		d.free(0)
		d.fill(s, 1)
		f := d.fork(s)
		for _, n := range []int{0, width - 1, width + 1} {
			d.refuse(s, make([]int64, n), api.ErrShape)
			d.refuse(f, make([]int64, n), api.ErrShape)
		}
		d.refuse(f, make([]int64, width), api.OutOfMemory)
	}
}

// 13.2: a page with another owner is copied whole, also the cells behind the last row, and is then dropped.
func TestAppendCopies(t *testing.T) {
	for _, width := range []int{1, 3, 5, 8, 10, 15, 16} {
		per := 32 / width
		for rows := 1; rows < per; rows++ {
			d := start(t, 5)
			s := d.seq("a", width)
			d.fill(s, rows)
			for cell := rows * width; cell < cells; cell++ {
				d.must(d.p.Put(0, cell, int64(-7000-cell)))
			}
			d.must(d.p.Share(0))
			ahead := look(d.p).pages[0].cells
			row := d.row(width)
			if e := d.add(s, row); e != api.OK {
				t.Fatalf("Append: error %d", e)
			}
			d.expect(s, rows+1, 0, 1)
			d.expectOwners(1, 1, 0)
			now := look(d.p).pages
			if now[0].cells != ahead {
				t.Errorf("width %d, %d rows: the old page holds %v, %v ahead", width, rows, now[0].cells, ahead)
			}
			copy(ahead[rows*width:], row)
			if now[1].cells != ahead {
				t.Errorf("width %d, %d rows: the new page holds %v, want %v", width, rows, now[1].cells, ahead)
			}
			if now[1].tag != "a" {
				t.Errorf("the new page's tag is %q", now[1].tag)
			}
		}
	}
}

// 13.2: of several pages the last one alone is copied, and stays the last.
func TestAppendCopiesTheLast(t *testing.T) {
	d := start(t, 8)
	s := d.seq("a", 16)
	d.fill(s, 5)
	f := d.fork(s)
	g := d.fork(f)
	d.expectOwners(3, 3, 3, 0)
	d.fill(f, 1)
	d.expect(f, 6, 0, 0, 1, 3)
	d.expectOwners(3, 3, 2, 1, 0)
	d.fill(g, 1)
	d.expect(g, 6, 0, 0, 1, 4)
	d.expectOwners(3, 3, 1, 1, 1, 0)
	d.fill(s, 1)
	d.expect(s, 6, 0, 0, 1, 2)
	d.fill(s, 1)
	d.expect(s, 7, 0, 0, 1, 2, 5)
	d.expectOwners(3, 3, 1, 1, 1, 1, 0)
}

// 13.2: a full last page with another owner is not copied: the row goes into a page behind it.
func TestAppendBehindSharedFull(t *testing.T) {
	for _, width := range []int{4, 7, 16, 20, 32} {
		per := 32 / width
		d := start(t, 5)
		s := d.seq("a", width)
		d.fill(s, per)
		f := d.fork(s)
		d.fill(s, 1)
		d.expect(s, per+1, 0, 0, 1)
		d.fill(f, 1)
		d.expect(f, per+1, 0, 0, 2)
		d.expectOwners(2, 1, 1, 0)
	}
}

// 13.2: two sequences in one pool with tags of their own, and a pool that is used up to its last cell.
func TestAppendTags(t *testing.T) {
	d := start(t, 4)
	a, b := d.seq("a", 8), d.seq("b", 32)
	d.fill(a, 1)
	d.fill(b, 1)
	d.fill(a, 4)
	d.fill(b, 1)
	d.expect(a, 5, 0, 0, 2)
	d.expect(b, 2, 0, 1, 3)
	if x, y := d.p.Count("a"), d.p.Count("b"); x != 2 || y != 2 {
		t.Errorf("%d and %d pages", x, y)
	}
	d.fill(a, 3)
	d.refuse(a, d.row(8), api.OutOfMemory)
	d.refuse(b, d.row(32), api.OutOfMemory)
}

// 13.3: each page has one owner more, and both have the same rows and pages, at several counts of rows.
func TestFork(t *testing.T) {
	for _, width := range []int{1, 6, 16, 32} {
		for rows := range 3*(32/width) + 1 {
			d := start(t, 5)
			d.occupy(4)
			s := d.seq("a", width)
			d.fill(s, rows)
			owners := slices.Repeat([]int{1}, 1+len(s.s.Pages()))
			d.expectOwners(owners...)
			f := d.fork(s)
			for i := range s.s.Pages() {
				owners[i+1]++
			}
			d.expectOwners(append(owners, 0)...)
			d.expect(f, rows, 0, s.s.Pages()...)
			for i := range rows {
				a, _ := s.s.Row(i)
				b, e := f.s.Row(i)
				if e != api.OK || !slices.Equal(a, b) {
					t.Errorf("row %d: %v and %v, error %d", i, a, b, e)
				}
			}
		}
	}
}

// 13.3: what is appended to the one is not seen in the other, whichever goes first.
func TestForkIsItsOwn(t *testing.T) {
	for _, width := range []int{1, 5, 16, 32} {
		for order := range 4 {
			for rows := range 2*(32/width) + 1 {
				d := start(t, 20)
				s := d.seq("a", width)
				d.fill(s, rows)
				f := d.fork(s)
				for step := range 3 {
					if (order>>(step%2))%2 == 0 {
						d.fill(s, 1)
						d.fill(f, 2)
					} else {
						d.fill(f, 1)
						d.fill(s, 1)
					}
				}
				a, _ := s.s.Row(rows)
				b, _ := f.s.Row(rows)
				if len(a) != width || len(b) != width || slices.Equal(a, b) {
					t.Errorf("row %d: %v and %v", rows, a, b)
				}
			}
		}
	}
}

// 13.3: a fork has the same tag, width and first row, also where first rows are gone, and goes on by itself.
func TestForkBehindKeep(t *testing.T) {
	d := start(t, 12)
	s := d.seq("a", 16)
	d.fill(s, 7)
	d.keep(s, 3)
	f := d.fork(s)
	d.expect(f, 7, 4, 2, 3)
	d.refuse(f, make([]int64, 15), api.ErrShape)
	d.fill(f, 2)
	d.expect(f, 9, 4, 2, 0, 1)
	if n := d.p.Count("a"); n != 4 {
		t.Errorf("%d pages with the tag", n)
	}
	d.keep(f, 1)
	d.expect(f, 9, 8, 1)
	d.expect(s, 7, 4, 2, 3)
	d.release(s)
	d.expect(f, 9, 8, 1)
	g := d.fork(s)
	d.expect(g, 7, 7)
	d.fill(g, 1)
	d.expect(g, 8, 7, 0)
	d.expect(s, 7, 7)
}

// 13.3: forks of forks.
func TestForksOfForks(t *testing.T) {
	d := start(t, 30)
	line := []*pair{d.seq("a", 10)}
	d.fill(line[0], 4)
	for i := range 5 {
		line = append(line, d.fork(line[i]))
	}
	d.expectOwners(6, 6, 0)
	for i := range 6 {
		d.fill(line[5-i], 1)
	}
	d.expectOwners(6, 1, 1, 1, 1, 1, 1, 0)
	for _, one := range line[:5] {
		f := d.fork(one)
		d.fill(f, 2)
		d.release(one)
	}
	for _, one := range d.all {
		d.release(one)
	}
	if _, free, _ := d.p.Sizes(); free != 30 {
		t.Errorf("%d pages are free", free)
	}
}

// 13.3: forks of a sequence without rows, also where its rows are all gone.
func TestForkOfNone(t *testing.T) {
	d := start(t, 6)
	s := d.seq("a", 16)
	f := d.fork(s)
	d.expect(f, 0, 0)
	d.fill(s, 1)
	d.expect(f, 0, 0)
	d.fill(f, 1)
	d.expect(s, 1, 0, 0)
	d.expect(f, 1, 0, 1)
	d.fill(s, 1)
	d.keep(s, 0)
	g := d.fork(s)
	d.expect(g, 2, 2)
	d.fill(g, 1)
	d.expect(g, 3, 2, 0)
	d.fill(s, 1)
	d.expect(s, 3, 2, 2)
}

// 13.3: Keep at all numbers about the rows, and at the ends.
func TestKeep(t *testing.T) {
	for _, width := range []int{4, 5, 10, 16, 32} {
		per := 32 / width
		for rows := range 4*per + 1 {
			for _, n := range append(ends(), -2, -1, 0, 1, 2, 3, per-1, per, per+1, 2*per, rows-1, rows, rows+1) {
				d := start(t, 6)
				s := d.seq("a", width)
				d.fill(s, rows)
				d.keep(s, n)
				gone := 0
				for (gone+1)*per <= rows-max(0, n) && n < 1000 {
					gone++
				}
				d.expect(s, rows, gone*per, []int{0, 1, 2, 3, 4}[gone:(rows+per-1)/per]...)
				for page := range 6 {
					owners := 0
					if page >= gone && page < (rows+per-1)/per {
						owners = 1
					}
					if got := d.p.Owners(page); got != owners {
						t.Errorf("width %d, %d rows, Keep(%d): page %d has %d owners", width, rows, n, page, got)
					}
				}
				d.keep(s, n)
				d.fill(s, 1)
			}
		}
	}
}

// 13.3: a page goes only where all its rows are below Len - n, to the row.
func TestKeepToTheRow(t *testing.T) {
	d := start(t, 4)
	s := d.seq("a", 8)
	d.fill(s, 10)
	d.keep(s, 7)
	d.expect(s, 10, 0, 0, 1, 2)
	d.keep(s, 6)
	d.expect(s, 10, 4, 1, 2)
	d.keep(s, 100)
	d.expect(s, 10, 4, 1, 2)
	d.keep(s, 3)
	d.expect(s, 10, 4, 1, 2)
	d.keep(s, 2)
	d.expect(s, 10, 8, 2)
	d.keep(s, 0)
	d.expect(s, 10, 8, 2)
	for i, want := range []api.Errno{6: api.ErrNone, 7: api.ErrNone, 8: api.OK, 9: api.OK, 10: api.ErrNone} {
		if _, e := s.s.Row(i); i > 5 && e != want {
			t.Errorf("Row(%d): error %d, want %d", i, e, want)
		}
	}
}

// 13.3: the page into which the next row goes stays, though it has no row that is to be kept, also where it is the only one; the row goes into it.
func TestKeepTheOpenPage(t *testing.T) {
	for _, n := range append(ends(), -1, 0, 1) {
		d := start(t, 3)
		s := d.seq("a", 10)
		d.fill(s, 1)
		d.keep(s, n)
		d.expect(s, 1, 0, 0)
		d.fill(s, 1)
		d.keep(s, n)
		d.expect(s, 2, 0, 0)
		d.fill(s, 3)
		d.keep(s, min(n, 2))
		d.expect(s, 5, 3, 1)
		d.fill(s, 1)
		d.expect(s, 6, 3, 1)
	}
}

// 13.3: a page that is just full may go; then there is none, First is Len, and the next row begins a new page.
func TestKeepFullPage(t *testing.T) {
	for _, n := range []int{least, -1, 0} {
		for width := 1; width <= 32; width++ {
			per := 32 / width
			d := start(t, 3)
			s := d.seq("a", width)
			d.fill(s, per)
			d.keep(s, 1)
			d.expect(s, per, 0, 0)
			d.keep(s, n)
			d.expect(s, per, per)
			if _, free, _ := d.p.Sizes(); free != 3 {
				t.Errorf("%d pages are free", free)
			}
			d.fill(s, per)
			d.expect(s, 2*per, per, 0)
			d.keep(s, n)
			d.expect(s, 2*per, 2*per)
		}
	}
}

// 13.3: a page that others own, too, is dropped and stays with them; the shared page into which the next row goes stays.
func TestKeepShared(t *testing.T) {
	d := start(t, 8)
	s := d.seq("a", 16)
	d.fill(s, 5)
	f := d.fork(s)
	d.keep(s, 0)
	d.expect(s, 5, 4, 2)
	d.expect(f, 5, 0, 0, 1, 2)
	d.expectOwners(1, 1, 2)
	d.fill(s, 1)
	d.expect(s, 6, 4, 3)
	d.expectOwners(1, 1, 1, 1)
	d.keep(f, 3)
	d.expect(f, 5, 2, 1, 2)
	d.expectOwners(0, 1, 1, 1)
}

// 13.3: Keep of a sequence without pages does nothing.
func TestKeepNothing(t *testing.T) {
	d := start(t, 3)
	s := d.seq("a", 16)
	for _, n := range append(ends(), -1, 0, 1) {
		d.keep(s, n)
		d.expect(s, 0, 0)
	}
	d.fill(s, 3)
	d.release(s)
	for _, n := range append(ends(), -1, 0, 1, 2, 3, 4) {
		d.keep(s, n)
		d.expect(s, 3, 3)
	}
}

// 13.3: a window that is kept behind each row takes no more pages than it needs, for as long as it goes on.
func TestKeepWindow(t *testing.T) {
	for _, width := range []int{5, 16, 32} {
		per := 32 / width
		for _, n := range []int{0, 1, 2, 5} {
			d := start(t, (n+per-1)/per+1)
			s := d.seq("a", width)
			for i := range 300 {
				d.fill(s, 1)
				d.keep(s, n)
				if first := s.s.First(); first > i+1-min(i+1, n) {
					t.Fatalf("row %d of the last %d is gone, behind %d rows", first-1, n, i+1)
				}
			}
		}
	}
}

// 13.3: Release drops all pages; First is Len, and further rows go into new pages, from their first cells on, with their numbers going on.
func TestRelease(t *testing.T) {
	for _, width := range []int{1, 5, 10, 16, 32} {
		per := 32 / width
		for rows := range 3*per + 1 {
			d := start(t, 5)
			d.occupy(4)
			s := d.seq("a", width)
			d.fill(s, rows)
			d.release(s)
			d.expect(s, rows, rows)
			d.expectOwners(1, 0, 0, 0, 0)
			if n := d.p.Count("a"); n != 0 {
				t.Errorf("%d pages with the tag", n)
			}
			d.release(s)
			d.expect(s, rows, rows)
			row := d.row(width)
			if e := d.add(s, row); e != api.OK {
				t.Fatalf("Append: error %d", e)
			}
			d.expect(s, rows+1, rows, 1)
			for i, want := range row {
				if v, e := d.p.Get(1, i); v != want || e != api.OK {
					t.Errorf("cell %d: %d, error %d; want %d", i, v, e, want)
				}
			}
			d.fill(s, per)
			d.expect(s, rows+per+1, rows, 1, 2)
			d.keep(s, 1)
			d.expect(s, rows+per+1, rows+per, 2)
			d.keep(s, 0)
			d.release(s)
			d.expectOwners(1, 0, 0, 0, 0)
		}
	}
}

// 13.3: Release of a sequence without rows, and a second one, do nothing, also where the pages are somebody else's by then.
func TestReleaseTwice(t *testing.T) {
	d := start(t, 4)
	s := d.seq("a", 16)
	d.release(s)
	d.release(s)
	d.expect(s, 0, 0)
	d.fill(s, 3)
	d.release(s)
	other := d.seq("b", 32)
	d.fill(other, 2)
	d.expect(other, 2, 0, 0, 1)
	d.release(s)
	d.keep(s, 0)
	d.expect(other, 2, 0, 0, 1)
	d.expectOwners(1, 1, 0, 0)
	d.expect(s, 3, 3)
}

// 13.3: pages that others own, too, stay with them, and those that are laid aside stay so.
func TestReleaseShared(t *testing.T) {
	d := start(t, 6)
	d.must(d.p.Reserve(2))
	s := d.seq("a", 16)
	d.fill(s, 3)
	f := d.fork(s)
	d.must(d.p.Share(0))
	d.release(s)
	d.expectOwners(2, 1, 0)
	d.expect(f, 3, 0, 0, 1)
	d.release(f)
	d.expectOwners(1, 0, 0)
	d.free(0)
	if all, free, aside := d.p.Sizes(); all != 6 || free != 6 || aside != 2 {
		t.Errorf("sizes %d, %d, %d", all, free, aside)
	}
}

// step does one of the calls, as the number says, with one of the sequences.
func (d *desk) step(kind, which, n int) {
	d.t.Helper()
	one := d.all[which%len(d.all)]
	switch kind {
	case 0:
		d.fork(one)
	case 1:
		d.keep(one, n)
	case 2:
		d.release(one)
	default:
		d.add(one, d.row(one.b.width))
	}
}

// finish releases all sequences: none of their pages has an owner then.
func (d *desk) finish(tags ...string) {
	d.t.Helper()
	for _, one := range d.all {
		d.release(one)
	}
	for _, tag := range tags {
		if n := d.p.Count(tag); n != 0 {
			d.t.Fatalf("%d pages of %q have owners", n, tag)
		}
	}
	if all, free, _ := d.p.Sizes(); free != all {
		d.t.Fatalf("%d of %d pages are free", free, all)
	}
}

// 13.4: rows stay as they were appended, over all short rows of calls with a sequence and its forks.
func TestAllShortRows(t *testing.T) {
	const kinds = 8
	for row := range kinds * kinds * kinds * kinds * kinds {
		d := start(t, 4)
		s := d.seq("a", 16)
		d.fill(s, 3)
		d.fork(s)
		rest := row
		for range 5 {
			switch kind := rest % kinds; kind {
			case 0, 1:
				d.add(d.all[kind], d.row(16))
			case 2, 3:
				d.keep(d.all[kind-2], 1)
			case 4, 5:
				d.release(d.all[kind-4])
			case 6:
				d.all[0] = d.swapped(d.all[0])
			default:
				d.add(d.all[len(d.all)-1], d.row(16))
			}
			rest /= kinds
		}
		d.finish("a")
	}
}

// swapped puts a fork into the place of its sequence, which goes on as the last one.
func (d *desk) swapped(one *pair) *pair {
	d.t.Helper()
	fork := d.fork(one)
	d.all[len(d.all)-1] = one
	return fork
}

// 13.4: the same over long rows of calls, with several sequences and many forks in one pool, in several orders.
func TestManyCalls(t *testing.T) {
	for seed, all := range []int{1, 2, 5, 12, 40} {
		for _, width := range []int{3, 8, 16, 21} {
			luck := dice(362436069 + uint64(seed)<<20 + uint64(width))
			d := start(t, all)
			d.must(d.p.Reserve(all / 6))
			d.seq("a", width)
			d.seq("b", 33-width)
			for range 500 {
				kind := luck.below(12)
				if kind == 0 && len(d.all) >= 9 {
					which := luck.below(len(d.all))
					d.release(d.all[which])
					d.all = slices.Delete(d.all, which, which+1)
				}
				d.step(kind, luck.below(100), luck.below(8)-1)
			}
			for range 5 {
				a, b := luck.below(len(d.all)), luck.below(len(d.all))
				d.all[a], d.all[b] = d.all[b], d.all[a]
			}
			d.finish("a", "b")
		}
	}
}

// 13.4: forks that are released in all orders, with rows appended between.
func TestAllOrdersOfRelease(t *testing.T) {
	for _, order := range [][]int{{0, 1, 2, 3}, {3, 2, 1, 0}, {1, 0, 3, 2}, {2, 3, 0, 1}, {0, 2, 1, 3}, {3, 0, 2, 1}} {
		for rows := range 6 {
			d := start(t, 30)
			s := d.seq("a", 10)
			d.fill(s, rows)
			d.fork(d.fork(s))
			d.fork(s)
			for i, which := range order {
				for _, left := range order[i:] {
					d.fill(d.all[left], 1)
				}
				d.release(d.all[which])
			}
			d.finish("a")
		}
	}
}

// 13.4: a fork that is released ahead of the next row leaves the page to the other, which writes on in it.
func TestForkThatIsGone(t *testing.T) {
	d := start(t, 2)
	s := d.seq("a", 8)
	d.fill(s, 5)
	for range 3 {
		f := d.fork(s)
		d.refuse(s, d.row(8), api.OutOfMemory)
		d.release(f)
		d.fill(s, 1)
	}
	d.expect(s, 8, 0, 0, 1)
	d.finish("a")
}

// R4: what is handed in is not changed, nor what lies in the spare room behind it, and it is not kept.
func TestNothingChanged(t *testing.T) {
	for _, width := range []int{1, 5, 16, 32} {
		d := start(t, 4)
		s := d.seq("a", width)
		for i := range 3 * (32 / width) {
			for _, n := range []int{width, width - 1, width + 1} {
				room := append(d.row(n), slices.Repeat([]int64{77}, 40)...)
				ahead := slices.Clone(room)
				e := d.add(s, room[:n])
				if !slices.Equal(room, ahead) {
					t.Fatalf("Append of %d numbers, error %d: %v, %v ahead", n, e, room, ahead)
				}
				spoil(room, -9)
				d.check("a change of what was appended")
			}
			if i%3 == 1 {
				d.fork(s)
			}
			if i%3 == 2 {
				d.release(d.all[len(d.all)-1])
				d.all = d.all[:1]
			}
		}
	}
}

// R4: a row that a sequence answered may be appended to it, and to its fork.
func TestAppendOfAnswers(t *testing.T) {
	d := start(t, 10)
	s := d.seq("a", 12)
	d.fill(s, 3)
	f := d.fork(s)
	for i := range 6 {
		row, e := s.s.Row(i / 2)
		if e != api.OK {
			t.Fatalf("Row: error %d", e)
		}
		d.add(s, row)
		d.add(f, row)
		spoil(row, 1)
		d.check("a change of what was appended")
	}
}

// 13.1 to 13.3: sequences of two pools are apart.
func TestPoolsAreApart(t *testing.T) {
	one, two := start(t, 4), start(t, 4)
	a, b := one.seq("a", 16), two.seq("a", 16)
	one.fill(a, 3)
	two.check("what was done in the other pool")
	two.fill(b, 5)
	one.check("what was done in the other pool")
	one.release(a)
	two.check("what was done in the other pool")
	two.expect(b, 5, 0, 0, 1, 2)
}

// R6: many rows, and as many pages as a pool may have.
func TestManyRows(t *testing.T) {
	p, _ := pool.New(api.MaxPages)
	s, e := New(p, "a", 5)
	if e != api.OK {
		t.Fatalf("New: error %d", e)
	}
	for i := range 6 * api.MaxPages {
		if e := s.Append([]int64{int64(i), 1, 2, 3, -int64(i)}); e != api.OK {
			t.Fatalf("row %d: error %d", i, e)
		}
	}
	if e := s.Append(make([]int64, 5)); e != api.OutOfMemory {
		t.Errorf("a row too many: error %d", e)
	}
	f := s.Fork()
	for i := range 6 * api.MaxPages {
		for _, one := range []*Seq{s, f} {
			if row, e := one.Row(i); e != api.OK || !slices.Equal(row, []int64{int64(i), 1, 2, 3, -int64(i)}) {
				t.Fatalf("row %d: %v, error %d", i, row, e)
			}
		}
	}
	f.Release()
	for i := range 20000 {
		s.Keep(100)
		if e := s.Append([]int64{int64(i), 0, 0, 0, 0}); e != api.OK {
			t.Fatalf("row %d of those behind: error %d", i, e)
		}
	}
	if n, first := s.Len(), s.First(); n != 6*api.MaxPages+20000 || first < n-107 || first > n-100 {
		t.Errorf("Len %d, First %d", n, first)
	}
	s.Release()
	if _, free, _ := p.Sizes(); free != api.MaxPages {
		t.Errorf("%d pages are free", free)
	}
}

// R1: where somebody else dropped a sequence's pages in the pool, nothing is promised but that all calls end, and a row is no answer beside an error.
func TestPagesDroppedByOthers(t *testing.T) {
	for rows := range 6 {
		p, _ := pool.New(4)
		s, _ := New(p, "a", 16)
		for range rows {
			s.Append(make([]int64, 16))
		}
		for page := range 4 {
			p.Drop(page)
		}
		for i := range rows {
			if row, e := s.Row(i); e != api.OK && len(row) != 0 {
				t.Errorf("row %d: %v, error %d", i, row, e)
			}
		}
		s.Need()
		s.Pages()
		f := s.Fork()
		s.Append(make([]int64, 16))
		f.Append(make([]int64, 16))
		s.Keep(1)
		f.Keep(0)
		s.Release()
		f.Release()
	}
}
