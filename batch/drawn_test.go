package batch

import (
	"slices"
	"strings"
	"testing"

	"aviary/admit"
	"aviary/api"
	"aviary/graft"
)

// kit is a model with an adapter of a name.
type kit struct {
	m    api.Model
	name string
	d    api.Adapter
}

// kits is models of all kinds with an adapter each, of which some have the same model.
func (d *dice) kits(t *testing.T) []kit {
	t.Helper()
	var list []kit
	for i := range 3 {
		c := d.config()
		m := d.model(t, c)
		if i > 0 && d.roll(2) == 0 {
			m = list[0].m
		}
		list = append(list, kit{m, string(rune('a' + i)), d.adapter(t, m.Config, 1+d.roll(4))})
	}
	return list
}

// play is a house in which calls are drawn.
type play struct {
	*house
	d    *dice
	kits []kit
	held map[string]int // how often somebody else holds an adapter
	seen map[string]int
}

// begin is a play of a seed, in a house with so many pages.
func begin(t *testing.T, seed uint64, pages int, seen map[string]int) *play {
	t.Helper()
	d := &dice{seed}
	p := &play{house: open(t, pages), d: d, kits: d.kits(t), held: map[string]int{}, seen: seen}
	for _, k := range p.kits {
		p.put(k.name, k.m.Config, k.d)
	}
	return p
}

// tryStart starts a job that is drawn, or one that is refused.
func (p *play) tryStart() {
	p.t.Helper()
	k := p.kits[p.d.roll(3)]
	a := p.d.ask(k.m.Config.Vocab)
	if p.d.roll(2) == 0 {
		k.name, k.d = "", none
	}
	id := p.d.roll(8) * 111111
	switch {
	case p.w.work(id) != nil:
		p.refuse(id, k.m, k.name, k.d, a, api.ErrTwice)
	case len(p.w.works) == 4:
		p.refuse(id, k.m, k.name, k.d, a, api.ErrState)
	case k.name != "" && p.w.card(k.name) == nil:
		p.refuse(id, k.m, k.name, k.d, a, api.ErrNone)
	default:
		p.start(id, k.m, k.name, k.d, a)
	}
}

// tryOther is a call of somebody else.
func (p *play) tryOther() {
	p.t.Helper()
	k := p.kits[p.d.roll(3)]
	switch p.d.roll(8) {
	case 0, 1:
		p.take(p.d.roll(3))
	case 2, 3:
		p.give(min(len(p.taken), p.d.roll(4)))
	case 4:
		p.lay(p.d.roll(5) - 2)
	case 5:
		if p.w.card(k.name) != nil && p.pin(k.name) {
			p.held[k.name]++
		}
	case 6:
		p.letGo(k.name)
	case 7:
		if p.w.card(k.name) == nil {
			p.put(k.name, k.m.Config, k.d)
		} else {
			p.remove(k.name)
		}
	}
}

// letGo has somebody else let go of an adapter, if he holds it.
func (p *play) letGo(name string) {
	p.t.Helper()
	if p.held[name] > 0 {
		p.held[name]--
		p.unpin(name)
	}
}

// count is a Tick, of which is counted what became of the jobs.
func (p *play) count() {
	p.t.Helper()
	was := map[*work]int{}
	resident := len(p.s.Resident())
	for i, one := range p.w.works {
		was[one] = -1
		if one.runs {
			was[one] = rowsOf(p.b.jobs[i])
		}
	}
	works := slices.Clone(p.w.works)
	p.tick(1)
	p.seen["ready"] += len(works) - len(p.w.works)
	if len(p.s.Resident()) < resident {
		p.seen["yielded"]++
	}
	for i, one := range p.w.works {
		rows, ahead := rowsOf(p.b.jobs[i]), was[one]
		switch {
		case ahead >= 0 && !one.runs:
			p.seen["put off"]++
		case ahead > rows:
			p.seen["put off and begun again"]++
		case ahead >= 0 && ahead == rows:
			p.seen["waits with its rows"]++
		case ahead < 0 && one.runs && len(one.branches[0].Tokens) > 0 && rows == 1:
			p.seen["begun again with tokens"]++
		case ahead < 0 && !one.runs:
			p.seen["not begun"]++
		}
		if len(one.branches) > 1 && len(one.leaves()) > 0 {
			p.seen["several tries"]++
		}
		if one.runs && one.branches[0].Done != one.branches[len(one.branches)-1].Done {
			p.seen["some tries done"]++
		}
	}
}

// rowsOf is how many rows each try of a job has that is not done; 0 of one that is put off.
func rowsOf(j *job) int {
	for _, t := range j.tries {
		if !t.Done && t.rows != nil {
			return t.rows.Len()
		}
	}
	return 0
}

// needs is what admit says that a job needs.
func (w *work) needs() int {
	return admit.Need(w.m.Config, w.a, len(graft.Flat(w.d, w.m.Config)))
}

// finish has somebody else give all back; the jobs for which there can be room become ready, and the others are cancelled.
func (p *play) finish() {
	p.t.Helper()
	p.give(len(p.taken))
	p.lay(-p.w.aside)
	for _, k := range p.kits {
		for p.held[k.name] > 0 {
			p.letGo(k.name)
		}
		if p.w.card(k.name) == nil {
			p.put(k.name, k.m.Config, k.d)
		}
	}
	for _, one := range slices.Clone(p.w.works) {
		if one.needs() > p.w.all {
			p.cancel(one.id)
			p.seen["too great"]++
		}
	}
	for range 24 * len(p.w.works) {
		p.count()
	}
	p.done()
}

// 23.4: jobs that are drawn, several at once, with little room, cancelled, put off and begun again, beside others in the pool and on the shelf: each reply is gen.Answer's, and with no jobs no page has a tag of theirs.
func TestDrawn(t *testing.T) {
	seen := map[string]int{}
	for seed := range uint64(500) {
		p := begin(t, seed<<24+1, []int{3, 6, 10, 16, 24, 40}[seed%6]+int(seed%3), seen)
		for range 120 {
			switch n := p.d.roll(20); {
			case n < 4:
				p.tryStart()
			case n < 15:
				p.count()
			case n < 16:
				p.cancel(p.d.roll(8) * 111111)
			case n < 17:
				p.done()
			default:
				p.tryOther()
			}
		}
		p.finish()
		if got := p.b.Jobs(); len(got) != 0 {
			t.Fatalf("seed %d: jobs %v are left", seed, got)
		}
		p.noTags()
	}
	for _, what := range []string{"ready", "yielded", "put off", "put off and begun again", "waits with its rows", "begun again with tokens", "not begun", "several tries", "some tries done", "too great"} {
		if seen[what] < 50 {
			t.Errorf("%s: %d times", what, seen[what])
		}
	}
}

// noTags tells whether no page has a tag of a job.
func (p *play) noTags() {
	p.t.Helper()
	for page := range p.w.all {
		if tag := p.p.Tag(page); strings.HasPrefix(tag, "r") {
			p.t.Fatalf("page %d has the tag %s", page, tag)
		}
	}
}

// 23.4: the same jobs, whatever is beside them: alone, with others, with little room, with adapters that come and go.
func TestBesideOthers(t *testing.T) {
	for seed := range uint64(60) {
		for _, pages := range []int{60, 100, 200} {
			p := begin(t, seed<<20+3, pages, map[string]int{})
			for id := range 4 {
				k := p.kits[p.d.roll(3)]
				p.start(id, k.m, k.name, k.d, p.d.ask(k.m.Config.Vocab))
			}
			for range 96 {
				p.tryOther()
				p.tick(1)
			}
			p.finish()
			p.noTags()
		}
	}
}

// 23.5: with room for what admit says that the oldest job needs it goes on at each Tick, whatever the younger ones are.
func TestOldestGoesOn(t *testing.T) {
	seen := map[string]int{}
	for seed := range uint64(400) {
		asks, pages := asksOf(t, seed)
		p := begin(t, seed, pages, seen)
		for len(asks) > 0 || len(p.w.works) > 0 {
			if len(asks) > 0 && len(p.w.works) < 4 && p.d.roll(2) == 0 {
				p.start(asks[0].id, asks[0].m, asks[0].name, asks[0].d, asks[0].a)
				asks = asks[1:]
			}
			p.oldestGoesOn()
			if p.ticks > 24*8*2 {
				t.Fatalf("seed %d: behind %d Ticks there are still %v", seed, p.ticks, p.b.Jobs())
			}
		}
		if got := len(p.done()); got != 8 {
			t.Fatalf("seed %d: %d replies", seed, got)
		}
	}
	for _, what := range []string{"ready", "put off", "waits with its rows", "begun again with tokens", "not begun"} {
		if seen[what] < 50 {
			t.Errorf("%s: %d times", what, seen[what])
		}
	}
}

// asksOf is eight jobs of the seed's models, and as many pages as admit says that one of them needs at most.
func asksOf(t *testing.T, seed uint64) ([]handed, int) {
	t.Helper()
	d := &dice{seed}
	kits := d.kits(t)
	var asks []handed
	pages := 1
	for id := range 8 {
		k := kits[d.roll(3)]
		if d.roll(2) == 0 {
			k.name, k.d = "", none
		}
		one := handed{id, k.m, k.name, k.d, d.ask(k.m.Config.Vocab)}
		asks = append(asks, one)
		pages = max(pages, admit.Need(k.m.Config, one.a, len(graft.Flat(k.d, k.m.Config))))
	}
	return asks, pages
}

// oldestGoesOn is a Tick, at which the oldest job has a row more, or is ready.
func (p *play) oldestGoesOn() {
	p.t.Helper()
	if len(p.b.jobs) == 0 {
		p.count()
		return
	}
	oldest := p.b.jobs[0]
	ahead := rowsOf(oldest)
	p.count()
	if len(p.b.jobs) > 0 && p.b.jobs[0] == oldest && rowsOf(oldest) != ahead+1 {
		p.t.Fatalf("behind %d Ticks the oldest job has %d rows; want %d: %+v", p.ticks, rowsOf(oldest), ahead+1, oldest.ask)
	}
}

// 23.5: of a job with just the room that it may need, each row is one Tick's, with each kind, beside younger ones that want as much.
func TestOldestJustRoom(t *testing.T) {
	for seed := range uint64(300) {
		d := &dice{seed<<12 + 9}
		c := d.config()
		m, a := d.model(t, c), d.adapter(t, c, 1+d.roll(4))
		ask := d.ask(c.Vocab)
		ask.Kind = 1 + int(seed%4)
		name := "a"
		if seed%3 == 0 {
			name, a = "", none
		}
		h := open(t, admit.Need(c, ask, len(graft.Flat(a, c))))
		other := d.adapter(t, c, 1)
		h.put("a", c, d.adapter(t, c, max(a.Rank, 1)))
		h.put("b", c, other)
		for id := range 4 {
			switch {
			case id == 0:
				h.start(id, m, name, a, ask)
			case d.roll(2) == 0:
				h.start(id, m, "b", other, d.ask(c.Vocab))
			default:
				h.start(id, m, name, a, ask)
			}
		}
		rows := len(ask.Prompt)
		if ask.Kind != api.Embed {
			rows += longest(h, ask) - 1
		}
		h.tick(rows - 1)
		if !slices.Contains(h.b.Jobs(), 0) {
			t.Fatalf("seed %d: ahead of the Tick %d a reply to %+v", seed, rows, ask)
		}
		h.tick(1)
		if slices.Contains(h.b.Jobs(), 0) {
			t.Fatalf("seed %d: behind %d Ticks no reply to %+v", seed, rows, ask)
		}
	}
}

// longest is how many tokens the oldest job takes till all its tries are done, in a house of its own.
func longest(h *house, ask api.Ask) int {
	if ask.Kind != api.Beam {
		return len(h.w.works[0].answer.Tokens)
	}
	one := *h.w.works[0]
	w := &world{t: h.t}
	n := 1
	one.branches = []branch{{thread: &thread{}}}
	for !w.grow(&one) {
		n++
	}
	return n
}
