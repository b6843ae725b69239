package admit

import (
	"testing"

	"aviary/api"
)

// well is a request that nothing is wrong with.
var well = Facts{Tenant: true, Model: true, Adapter: true, Waiting: 15, Need: 7, Room: 7}

// wrong is one thing that can be wrong with a request, and what is told of it then.
type wrong struct {
	name string
	make func(f *Facts)
	told api.Errno
}

// wrongs is all things that can be wrong, in the chapter's order.
func wrongs() []wrong {
	return []wrong{
		{"no tenant", func(f *Facts) { f.Tenant = false }, api.Malformed},
		{"twice", func(f *Facts) { f.Twice = true }, api.Malformed},
		{"no model", func(f *Facts) { f.Model = false }, api.UnknownModel},
		{"no adapter", func(f *Facts) { f.Adapter = false }, api.UnknownModel},
		{"draining", func(f *Facts) { f.Draining = true }, api.Draining},
		{"asked", func(f *Facts) { f.Asked = api.TooLong }, api.TooLong},
		{"queue", func(f *Facts) { f.Waiting = 16 }, api.QueueFull},
		{"room", func(f *Facts) { f.Need = 8 }, api.OutOfMemory},
	}
}

// checkDecide holds Decide against an outcome.
func checkDecide(t *testing.T, f Facts, want api.Errno) {
	t.Helper()
	if e := Decide(f); e != want {
		t.Errorf("Decide(%+v): %d, not %d", f, e, want)
	}
}

// wantDecide is Decide's outcome, by the chapter's words: what is found last here is told first.
func wantDecide(f Facts) api.Errno {
	e := api.OK
	if greater(f.Need, f.Room) {
		e = api.OutOfMemory
	}
	if !greater(16, f.Waiting) {
		e = api.QueueFull
	}
	if f.Asked != 0 {
		e = f.Asked
	}
	if f.Draining {
		e = api.Draining
	}
	if !f.Adapter || !f.Model {
		e = api.UnknownModel
	}
	if f.Twice || !f.Tenant {
		e = api.Malformed
	}
	return e
}

// 22.1: each thing that is wrong is told by itself, and with all that is behind it wrong, too.
func TestDecideOrder(t *testing.T) {
	checkDecide(t, well, api.OK)
	all := wrongs()
	for i, first := range all {
		alone := well
		first.make(&alone)
		checkDecide(t, alone, first.told)
		behind := well
		for _, w := range all[i:] {
			w.make(&behind)
		}
		checkDecide(t, behind, first.told)
		for _, w := range all[i:] {
			pair := alone
			w.make(&pair)
			checkDecide(t, pair, first.told)
		}
	}
}

// 22.1: all that can be wrong, in all ways together: what is named first is told.
func TestDecideAllWays(t *testing.T) {
	all := wrongs()
	for ways := range 1 << len(all) {
		f, want := well, api.OK
		for i, w := range all {
			if ways>>i&1 == 0 {
				continue
			}
			w.make(&f)
			if want == api.OK {
				want = w.told
			}
		}
		checkDecide(t, f, want)
	}
}

// 22.1: Asked is told as it is, whatever number it is, but OK.
func TestDecideAsked(t *testing.T) {
	for _, asked := range errnos() {
		f := well
		f.Asked = asked
		checkDecide(t, f, asked)
		f.Waiting, f.Need = 16, 8
		if asked == api.OK {
			checkDecide(t, f, api.QueueFull)
			continue
		}
		checkDecide(t, f, asked)
		f.Draining = true
		checkDecide(t, f, api.Draining)
	}
}

// 22.1: 16 that wait are too many, and so is more; 15 are not, and less is not.
func TestDecideWaiting(t *testing.T) {
	for _, waiting := range []int{least, least + 1, -1 << 32, -17, -16, -1, 0, 1, 14, 15} {
		f := well
		f.Waiting = waiting
		checkDecide(t, f, api.OK)
		f.Room = 6
		checkDecide(t, f, api.OutOfMemory)
	}
	for _, waiting := range []int{16, 17, 18, 31, 255, 256, 1 << 31, 1 << 32, 1<<32 + 1, most - 1, most} {
		f := well
		f.Waiting = waiting
		checkDecide(t, f, api.QueueFull)
		f.Room = 6
		checkDecide(t, f, api.QueueFull)
	}
}

// 22.1: a need above the room is too much, the same is not; at all edges, and with the ends of both.
func TestDecideNeedAndRoom(t *testing.T) {
	for _, need := range near() {
		for _, room := range near() {
			f := well
			f.Need, f.Room = need, room
			want := api.OK
			if greater(need, room) {
				want = api.OutOfMemory
			}
			checkDecide(t, f, want)
		}
		f := well
		f.Need, f.Room = need, need
		checkDecide(t, f, api.OK)
		if need > least {
			f.Need, f.Room = need, need-1
			checkDecide(t, f, api.OutOfMemory)
			f.Need, f.Room = need-1, need
			checkDecide(t, f, api.OK)
		}
	}
}

// 22.1: facts of all kinds, held against the chapter's words.
func TestDecideTogether(t *testing.T) {
	pairs := [][2]int{{7, 7}, {8, 7}, {7, 8}, {0, 0}, {0, -1}, {-1, 0}, {most, least}, {least, most}, {most, most}, {least, least}}
	for bools := range 32 {
		f := Facts{Tenant: bools&1 == 0, Twice: bools&2 == 0, Model: bools&4 == 0, Draining: bools&8 == 0, Adapter: bools&16 == 0}
		for _, f.Asked = range errnos() {
			for _, f.Waiting = range []int{least, -1, 0, 15, 16, 17, most} {
				for _, pair := range pairs {
					f.Need, f.Room = pair[0], pair[1]
					checkDecide(t, f, wantDecide(f))
				}
			}
		}
	}
}

// facts is drawn facts; nothing is wrong with many of them, or one thing alone.
func (d *dice) facts() Facts {
	f := well
	for _, w := range wrongs() {
		if d.roll(12) == 0 {
			w.make(&f)
		}
	}
	if d.roll(6) == 0 {
		f.Asked = d.errno()
	}
	if d.flip() {
		f.Waiting = d.any()
	}
	if d.flip() {
		f.Need = d.any()
	}
	if d.flip() {
		f.Room = d.any()
	}
	return f
}

// 22.1: drawn facts, held against the chapter's words.
func TestDecideDrawn(t *testing.T) {
	d := &dice{state: 22}
	seen := map[api.Errno]int{}
	for range 100000 {
		f := d.facts()
		checkDecide(t, f, wantDecide(f))
		seen[wantDecide(f)]++
	}
	for _, e := range errnos() {
		if seen[e] < 10 {
			t.Errorf("outcome %d came %d times", e, seen[e])
		}
	}
}
