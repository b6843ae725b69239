package batch

import (
	"slices"

	"aviary/api"
)

// Tick lets each job that can go on by a token.
func (b *Batch) Tick() {
	// A list of its own is gone through, as a job that is ready is taken out meanwhile.
next:
	for _, j := range slices.Clone(b.jobs) {
		if !b.prepare(j) {
			continue
		}
		var outs [][]int64
		for i := range j.tries {
			t := &j.tries[i]
			if t.Done {
				continue
			}
			out, e := j.step(t)
			if e != api.OK {
				// Only where somebody else shares or drops pages that are not his: the job begins again.
				b.putOff(j)
				continue next
			}
			outs = append(outs, out)
		}
		b.conclude(j, outs)
	}
}

// prepare tells whether a job can go on: it runs, and the pages that it takes are at hand.
func (b *Batch) prepare(j *job) bool {
	if !j.runs && !b.begin(j) {
		return false
	}
	need := j.nextPages()
	if !b.makeRoom(j, need) {
		return false
	}
	b.bringToHand(need)
	return true
}

// begin tells whether a job that is put off runs from now on.
func (b *Batch) begin(j *job) bool {
	need := j.wholePages()
	if j.name != "" && b.shelf.Pins(j.name) <= 0 {
		need += j.weightPages()
	}
	if !b.makeRoom(j, need) {
		return false
	}
	if j.name != "" && b.shelf.Pin(j.name) != api.OK {
		return false
	}
	j.run(b.pool)
	return true
}

// makeRoom puts younger jobs off, the youngest first, till there is room for so many pages; it tells whether there is.
func (b *Batch) makeRoom(j *job, pages int) bool {
	for b.shelf.Room() < pages {
		last := b.lastBehind(j)
		if last == nil {
			return false
		}
		b.putOff(last)
	}
	return true
}

// lastBehind is the youngest job that runs and is younger than j, or nil, if there is none.
func (b *Batch) lastBehind(j *job) *job {
	for _, other := range slices.Backward(b.jobs) {
		if other == j {
			return nil
		}
		if other.runs {
			return other
		}
	}
	return nil
}

// bringToHand has the shelf release what nobody holds, as long as fewer pages than that are at hand.
func (b *Batch) bringToHand(pages int) {
	for b.atHand() < pages {
		// Nothing is left to be released only where somebody else shares pages of the shelf.
		if !b.shelf.Yield() {
			return
		}
	}
}

// atHand is how many of the pool's free pages are not laid aside.
func (b *Batch) atHand() int {
	_, free, aside := b.pool.Sizes()
	return free - aside
}

// putOff lets go of all that a job holds, if it runs; its tokens stay.
func (b *Batch) putOff(j *job) {
	if !j.runs {
		return
	}
	j.rest()
	if j.name != "" {
		b.shelf.Unpin(j.name)
	}
}

// conclude keeps what came out, where it is asked for, and takes a job on whose tries are at their ends.
func (b *Batch) conclude(j *job, outs [][]int64) {
	embeds := j.ask.Kind == api.Embed
	if embeds {
		j.outs = append(j.outs, outs...)
	}
	if !j.allAtEnd() {
		return
	}
	if !embeds {
		j.lengthen(outs)
	}
	if embeds || j.allDone() {
		b.ready = append(b.ready, j.reply())
		b.takeOut(j)
	}
}
