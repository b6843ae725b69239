package registry

import (
	"testing"

	"aviary/api"
)

// dice is numbers that are drawn, the same ones each time.
type dice struct{ state uint64 }

func (d *dice) next() uint64 {
	d.state += 0x9E3779B97F4A7C15
	z := d.state
	z = (z ^ z>>30) * 0xBF58476D1CE4E5B9
	z = (z ^ z>>27) * 0x94D049BB133111EB
	return z ^ z>>31
}

func (d *dice) below(n int) int {
	return int(d.next() % uint64(n))
}

// of is one of some things.
func of[T any](d *dice, all []T) T {
	return all[d.below(len(all))]
}

// game is a world in which calls are drawn, and a tally of what came of them.
type game struct {
	*world
	*dice
	tally map[string]int
}

func (g *game) name() string  { return of(g.dice, []string{"m", "n", "m.1"}) }
func (g *game) number() int   { return of(g.dice, []int{1, 2, 11, 3}) }
func (g *game) key() string   { return of(g.dice, []string{"a", "b", "c", "d", "e"}) }
func (g *game) c() api.Config { return of(g.dice, []api.Config{small(), small(), wide(), broad()}) }

// version is a name and a number, mostly those of a version that is there.
func (g *game) version() (string, int) {
	var there []*edition
	for _, one := range g.editions {
		if !one.gone {
			there = append(there, one)
		}
	}
	if len(there) == 0 || g.below(4) == 0 {
		return g.name(), g.number()
	}
	one := of(g.dice, there)
	return one.name, one.number
}

// there is a key, mostly of something that is on the shelf.
func (g *game) there() string {
	if len(g.cards) == 0 || g.below(4) == 0 {
		return g.key()
	}
	return of(g.dice, g.cards).name
}

// play does one call that is drawn; all of them are held against the world by themselves.
func (g *game) play() {
	switch n := g.below(41); {
	case n < 8:
		g.playLoad()
	case n < 9:
		g.count("Load", g.load(g.name(), g.number(), of(g.dice, wrongModels())))
	case n < 12:
		g.count("Unload", g.unload(g.version()))
	case n < 15:
		g.count("Swap", g.swap(g.version()))
	case n < 18:
		g.count("Hold", g.hold(g.version()))
	case n < 20:
		g.playLet()
	case n < 27:
		g.playGraft()
	case n < 30:
		g.count("Use", g.use(g.there(), of(g.dice, []int{1, 1, -1, -1, -1, 2, -2, 1000000, -1000000, -999999})))
	case n < 33:
		g.count("Remove", g.remove(g.there()))
	default:
		g.playOthers(n - 33)
	}
}

// playLoad loads a model, and counts what was yielded for it.
func (g *game) playLoad() {
	resident := len(g.s.Resident())
	g.count("Load", g.load(g.name(), g.number(), made(g.c(), g.below(50))))
	g.tally["yielded"] += resident - len(g.s.Resident())
}

// playGraft lays an adapter in, that is mostly right for the current version.
func (g *game) playGraft() {
	name, c := g.name(), g.c()
	if one := g.now(name); one != nil && g.below(4) > 0 {
		c = one.m.Config
	}
	g.count("Graft", g.graft(g.key(), name, madeAdapter(c, 1+g.below(4), g.below(9), g.below(50))))
}

// playLet lets go, and counts what was taken away by it.
func (g *game) playLet() {
	name, number := g.version()
	pages := g.r.Pages()
	g.count("Let", g.let(name, number))
	if g.r.Pages() < pages {
		g.tally["last Let"]++
	}
}

// playOthers does what others do with the shelf and the pool, where it would not be refused.
func (g *game) playOthers(kind int) {
	key := g.there()
	one := g.card(key)
	tag := of(g.dice, []string{"r1", "m", "mm.1", "+zz"})
	switch kind {
	case 0, 1:
		if one != nil && (one.resident || g.room() >= need(len(one.w))) {
			g.pin(key)
		}
	case 2, 3, 4:
		if one != nil && one.held > 0 {
			g.unpin(key)
		}
	case 5:
		if one == nil && g.below(3) == 0 {
			g.put(key, weights(g.below(100), 3))
		}
	case 6:
		if n := g.below(3); tag != "mm.1" && g.atHand() >= n {
			g.take(tag, n)
		}
		g.giveBackOne()
	default:
		if g.aside > 0 {
			g.unreserve(1 + g.below(g.aside))
		} else if n := g.below(4); g.atHand() >= n {
			g.reserve(n)
		}
	}
}

// giveBackOne drops a page that neither the registry nor the shelf has.
func (g *game) giveBackOne() {
	for i, one := range g.pages {
		if (one.tag == "r1" || one.tag == "m" || one.tag == "+zz") && g.below(2) == 0 {
			g.drop(i)
			return
		}
	}
}

// count counts an answer, and of those that are right what there is.
func (g *game) count(call string, e api.Errno) {
	g.tally[call+" "+e.Error()]++
	for _, name := range []string{"m", "n", "m.1"} {
		if g.now(name) == nil && g.made[name] != nil && !g.made[name].gone {
			g.tally["draining was current"]++
		}
	}
	if len(g.pieces) > 2 {
		g.tally["three adapters"]++
	}
}

// 24.4: rows of calls that are drawn: each answer, and all that is to be seen of the registry, the shelf and the pool, is what it must be behind each step.
func TestDrawn(t *testing.T) {
	tally := map[string]int{}
	for seed := range 120 {
		g := &game{world: start(t, []int{5, 9, 16, 30}[seed%4]), dice: &dice{uint64(seed)}, tally: tally}
		for range 120 {
			g.play()
		}
		g.end()
	}
	for _, event := range []string{
		"Load outcome 0", "Load outcome 1", "Load outcome 3", "Load outcome 6", "Unload outcome 0", "Unload outcome 2", "Unload outcome 8",
		"Swap outcome 0", "Swap outcome 2", "Swap outcome 8", "Hold outcome 0", "Hold outcome 2", "Hold outcome 8", "Let outcome 0", "Let outcome 2", "Let outcome 27", "last Let",
		"Graft outcome 0", "Graft outcome 1", "Graft outcome 2", "Graft outcome 3", "Use outcome 0", "Use outcome 2", "Use outcome 20",
		"Remove outcome 0", "Remove outcome 2", "Remove outcome 8", "Remove outcome 27", "draining was current", "three adapters", "yielded", "held stayed",
	} {
		if tally[event] < 10 {
			t.Errorf("%s: %d times", event, tally[event])
		}
	}
}

// end unloads everything and lets go of it; then no version has a page.
func (g *game) end() {
	g.t.Helper()
	for _, one := range g.editions {
		if one.gone {
			continue
		}
		if !one.unloaded {
			g.is(g.unload(one.name, one.number), api.OK)
		}
		for !one.gone {
			g.is(g.let(one.name, one.number), api.OK)
		}
	}
	if n := g.r.Pages(); n != 0 {
		g.t.Fatalf("Pages %d", n)
	}
	if len(g.pieces) != 0 {
		g.t.Fatalf("there are still adapters")
	}
	for _, one := range g.cards {
		if one.held > 0 {
			g.tally["held stayed"]++
		}
	}
}
