package batch

import (
	"slices"
	"testing"

	"aviary/api"
	"aviary/beam"
	"aviary/model"
)

// leaf is a page of rows as it must be: the numbers of the rows in it, and how many threads have it.
type leaf struct {
	rows   []int
	owners int
}

// thread is a sequence as it must be.
type thread struct {
	leaves []*leaf
	next   int
}

// branch is a try as it must be.
type branch struct {
	beam.Beam
	thread *thread
}

// work is a job as it must be; its answer is known from the beginning.
type work struct {
	id       int
	m        api.Model
	name     string
	d        api.Adapter
	a        api.Ask
	answer   api.Reply
	runs     bool
	branches []branch
}

// card is weights on the shelf as they must be, by the pages that they take; the time is that of the last Pin.
type card struct {
	name     string
	pages    int
	held     int
	resident bool
	time     int
}

// world is a pool, a shelf and a batch as they must be: pages are counted, and rows are numbers only.
type world struct {
	t      *testing.T
	all    int
	others int // pages that somebody else has taken
	aside  int
	works  []*work
	cards  []*card
	clock  int
	ready  []api.Reply
}

// each is how many rows of a model fit into a page, counted one by one.
func (w *work) each() int {
	n := 0
	for (n+1)*2*w.m.Config.Dim*w.m.Config.Layers <= 32 {
		n++
	}
	return n
}

// full is how many rows a branch has at its end.
func (w *work) full(b branch) int {
	return len(w.a.Prompt) + len(b.Tokens)
}

// weightPages is how many pages the adapter's weights take.
func (w *work) weightPages() int {
	return pagesOf(4 * w.d.Rank * w.m.Config.Dim * w.m.Config.Layers)
}

// pagesOf is how many pages so many cells take, counted one by one.
func pagesOf(cells int) int {
	n := 0
	for n*32 < cells {
		n++
	}
	return n
}

// leaves is all pages of a job's rows, each once.
func (w *work) leaves() []*leaf {
	var list []*leaf
	for _, b := range w.branches {
		if b.thread == nil {
			continue
		}
		for _, l := range b.thread.leaves {
			if !slices.Contains(list, l) {
				list = append(list, l)
			}
		}
	}
	return list
}

// free is how many pages nobody has.
func (w *world) free() int {
	n := w.all - w.others
	for _, one := range w.works {
		n -= len(one.leaves())
	}
	for _, c := range w.cards {
		if c.resident {
			n -= c.pages
		}
	}
	return n
}

// atHand is how many free pages are not laid aside.
func (w *world) atHand() int { return w.free() - w.aside }

// room is how many pages are at hand, or lie under weights that nobody holds.
func (w *world) room() int {
	n := w.atHand()
	for _, c := range w.cards {
		if c.resident && c.held == 0 {
			n += c.pages
		}
	}
	return n
}

// work is the job of an id, or nil.
func (w *world) work(id int) *work {
	for _, one := range w.works {
		if one.id == id {
			return one
		}
	}
	return nil
}

// card is the weights of a name, or nil.
func (w *world) card(name string) *card {
	for _, c := range w.cards {
		if c.name == name {
			return c
		}
	}
	return nil
}

// yield takes the weights out of their pages that nobody holds, and that were pinned longest ago.
func (w *world) yield() bool {
	var first *card
	for _, c := range w.cards {
		if c.resident && c.held == 0 && (first == nil || c.time < first.time) {
			first = c
		}
	}
	if first == nil {
		return false
	}
	first.resident = false
	return true
}

// pin holds weights, and tells whether that is possible.
func (w *world) pin(name string) bool {
	c := w.card(name)
	if c == nil || !c.resident && w.room() < c.pages {
		return false
	}
	for !c.resident && w.atHand() < c.pages {
		w.yield()
	}
	w.clock++
	c.resident, c.time = true, w.clock
	c.held++
	return true
}

// putOff puts a job off.
func (w *world) putOff(one *work) {
	if !one.runs {
		return
	}
	one.runs = false
	for i := range one.branches {
		one.branches[i].thread = nil
	}
	if one.name != "" {
		w.card(one.name).held--
	}
}

// leave puts a job off and out.
func (w *world) leave(one *work) {
	w.putOff(one)
	at := slices.Index(w.works, one)
	w.works = slices.Concat(w.works[:at], w.works[at+1:])
}

// makeRoom puts off the youngest ones that run and are younger, one by one.
func (w *world) makeRoom(one *work, n int) bool {
	at := slices.Index(w.works, one)
	for last := len(w.works) - 1; w.room() < n; last-- {
		if last == at {
			return false
		}
		w.putOff(w.works[last])
	}
	return true
}

// begin tells whether a job that is put off can run.
func (w *world) begin(one *work) bool {
	n := 0
	for _, b := range one.branches {
		for rows := 0; !b.Done && rows < one.full(b); rows += one.each() {
			n++
		}
	}
	if c := w.card(one.name); one.name != "" && (c == nil || c.held == 0) {
		n += one.weightPages()
	}
	if !w.makeRoom(one, n) || one.name != "" && !w.pin(one.name) {
		return false
	}
	one.runs = true
	for i := range one.branches {
		if !one.branches[i].Done {
			one.branches[i].thread = &thread{}
		}
	}
	return true
}

// lastLeaf is the page into which the next row goes, or nil, if it goes into a new one.
func (s *thread) lastLeaf(each int) *leaf {
	if n := len(s.leaves); n > 0 && len(s.leaves[n-1].rows) < each {
		return s.leaves[n-1]
	}
	return nil
}

// need is how many pages the next row takes.
func (s *thread) need(each int) int {
	if l := s.lastLeaf(each); l == nil || l.owners > 1 {
		return 1
	}
	return 0
}

// add puts a row behind, and lets go of pages whose rows no window shows.
func (s *thread) add(each, window int) {
	switch l := s.lastLeaf(each); {
	case l == nil:
		s.leaves = append(s.leaves, &leaf{owners: 1})
	case l.owners > 1:
		l.owners--
		s.leaves[len(s.leaves)-1] = &leaf{slices.Clone(l.rows), 1}
	}
	l := s.leaves[len(s.leaves)-1]
	l.rows = append(l.rows, s.next)
	s.next++
	if window < 1 {
		return
	}
	for len(s.leaves) > 0 {
		l := s.leaves[0]
		if len(l.rows) < each || slices.Max(l.rows) >= s.next-window+1 {
			return
		}
		l.owners--
		s.leaves = s.leaves[1:]
	}
}

// fork is a thread of its own with the same pages.
func (s *thread) fork() *thread {
	for _, l := range s.leaves {
		l.owners++
	}
	return &thread{slices.Clone(s.leaves), s.next}
}

// close drops all pages.
func (s *thread) close() {
	for _, l := range s.leaves {
		l.owners--
	}
}

// tick is what a Tick must do.
func (w *world) tick() {
	for _, one := range slices.Clone(w.works) {
		if one.runs || w.begin(one) {
			w.goOn(one)
		}
	}
}

// goOn takes a job that runs on by a row, if there is room.
func (w *world) goOn(one *work) {
	n := 0
	for _, b := range one.branches {
		if !b.Done {
			n += b.thread.need(one.each())
		}
	}
	if !w.makeRoom(one, n) {
		return
	}
	for w.atHand() < n {
		w.yield()
	}
	ended := true
	for _, b := range one.branches {
		if !b.Done {
			b.thread.add(one.each(), one.m.Config.Window)
			ended = ended && b.thread.next == one.full(b)
		}
	}
	if ended && w.isReady(one) {
		w.ready = append(w.ready, one.answer)
		w.leave(one)
	}
}

// isReady takes a job whose branches are at their ends on by a token, and tells whether its answer is whole.
func (w *world) isReady(one *work) bool {
	switch one.a.Kind {
	case api.Embed:
		return true
	case api.Beam:
		return w.grow(one)
	}
	b := &one.branches[0]
	b.Tokens = one.answer.Tokens[:len(b.Tokens)+1]
	return len(b.Tokens) == len(one.answer.Tokens)
}

// grow takes several branches on by a token, by scores that no page was needed for.
func (w *world) grow(one *work) bool {
	var l []beam.Beam
	var scores [][]int64
	for _, b := range one.branches {
		l = append(l, b.Beam)
		if !b.Done {
			_, outs, _ := model.Run(one.m, one.d, slices.Concat(one.a.Prompt, b.Tokens))
			row, _ := model.Scores(one.m, outs[len(outs)-1])
			scores = append(scores, row)
		}
	}
	grown, places, e := beam.Grow(l, scores, one.a.Beams, one.a.Length, one.a.Stop)
	if e != api.OK {
		w.t.Fatalf("no beams of %+v: error %d", one.a, e)
	}
	old := one.branches
	one.branches = nil
	done := true
	for i, g := range grown {
		b := branch{Beam: g}
		if !g.Done {
			b.thread = old[places[i]].thread.fork()
			done = false
		}
		one.branches = append(one.branches, b)
	}
	for _, b := range old {
		if !b.Done {
			b.thread.close()
		}
	}
	return done
}
