package admit

import (
	"slices"
	"testing"

	"aviary/api"
)

// 22.4: with a greater room, or less that waits, nothing is refused that was not refused ahead.
func TestDecideWithMoreRoom(t *testing.T) {
	d := &dice{state: 4}
	taken := 0
	for range 200000 {
		f := d.facts()
		better := f
		if d.flip() {
			better.Room = max(f.Room, d.any())
		}
		if d.flip() {
			better.Waiting = min(f.Waiting, d.any())
		}
		if Decide(f) != api.OK {
			continue
		}
		taken++
		if e := Decide(better); e != api.OK {
			t.Fatalf("%+v is taken, and %+v is %d", f, better, e)
		}
	}
	if taken < 10000 {
		t.Errorf("%d were taken", taken)
	}
}

// 22.4: of each room and each number that waits, one at a time, from one end to the other: once it is not refused, it is not refused any more.
func TestDecideStepByStep(t *testing.T) {
	rooms, waits := near(), near()
	slices.Sort(rooms)
	slices.Sort(waits)
	slices.Reverse(waits)
	for _, need := range near() {
		f := well
		f.Need = need
		was := false
		for _, f.Room = range rooms {
			is := Decide(f) == api.OK
			if was && !is {
				t.Fatalf("%+v is refused, and was not with less room", f)
			}
			was = is
		}
	}
	f, was := well, false
	for _, f.Waiting = range waits {
		is := Decide(f) == api.OK
		if was && !is {
			t.Fatalf("%+v is refused, and was not when more waited", f)
		}
		was = is
	}
	if !was {
		t.Errorf("with %d that wait it is refused", f.Waiting)
	}
}

// 22.4: with a greater room no model is refused that was not refused ahead.
func TestLoadWithMoreRoom(t *testing.T) {
	d := &dice{state: 44}
	taken := 0
	for range 200000 {
		right, version := d.roll(9) > 0, d.roll(9) == 0
		need, room, greatest := d.any(), d.any(), d.any()
		if Load(right, version, need, room, greatest) != api.OK {
			continue
		}
		taken++
		more := max(room, d.any())
		if e := Load(right, version, need, more, greatest); e != api.OK {
			t.Fatalf("a need of %d, most %d: taken with a room of %d, %d with %d", need, greatest, room, e, more)
		}
	}
	if taken < 10000 {
		t.Errorf("%d were taken", taken)
	}
}

// longer is an ask with a longer prompt, or a greater length, or both, that is right, too.
func (d *dice) longer(a api.Ask, vocab int) api.Ask {
	spare := api.MaxLen - len(a.Prompt)
	if a.Kind != api.Embed {
		spare -= a.Length
	}
	tokens := d.roll(spare + 1)
	a.Prompt = slices.Clone(a.Prompt)
	for range tokens {
		a.Prompt = append(a.Prompt, d.roll(vocab))
	}
	if a.Kind != api.Embed {
		a.Length += d.roll(spare - tokens + 1)
	}
	return a
}

// 22.4: Need of a longer request of the same kind is not less.
func TestNeedOfLonger(t *testing.T) {
	d := &dice{state: 444}
	for range 100000 {
		c := d.config()
		a := d.ask(c.Vocab)
		long := d.longer(a, c.Vocab)
		weights := d.any()
		n, more := Need(c, a, weights), Need(c, long, weights)
		if n < 1 || more < n {
			t.Fatalf("%+v: %d pages for %+v, %d for %+v", c, n, a, more, long)
		}
	}
}

// 22.4: each request with one token more, in its prompt or behind it.
func TestNeedOfOneMore(t *testing.T) {
	for c := range shapes() {
		for _, kind := range kinds() {
			for count := 1; count < api.MaxLen; count++ {
				for length := 1; length < api.MaxLen-count; length++ {
					a := plain(kind)
					a.Prompt, a.Length = slices.Repeat([]int{1}, count), length
					prompt, behind := a, a
					prompt.Prompt = append(slices.Clone(a.Prompt), 0)
					behind.Length++
					n := Need(c, a, 7)
					if n < 1 || Need(c, prompt, 7) < n || Need(c, behind, 7) < n {
						t.Fatalf("%+v, %+v: %d pages, %d and %d with one more", c, a, n, Need(c, prompt, 7), Need(c, behind, 7))
					}
				}
			}
		}
	}
}
