package batch

import (
	"slices"
	"testing"

	"aviary/api"
)

// 23.1: without jobs there is nothing to tell.
func TestNoJobs(t *testing.T) {
	h := open(t, 3)
	if got := h.b.Jobs(); len(got) != 0 {
		t.Errorf("jobs %v", got)
	}
	for _, id := range append(ends(), 0, 1, 999999, 1000000) {
		if h.b.Running(id) || h.b.Cancel(id) {
			t.Errorf("there is a job %d", id)
		}
	}
	if got := h.b.Done(); len(got) != 0 {
		t.Errorf("replies %v", got)
	}
	h.tick(3)
	h.expect()
}

// 23.1: one job: put off, running, ready, gone.
func TestOneJob(t *testing.T) {
	h := open(t, 3)
	m := blank(t, wide())
	h.start(7, m, "", none, greedy(2, 2))
	if got := h.b.Jobs(); !slices.Equal(got, []int{7}) {
		t.Errorf("jobs %v", got)
	}
	h.running()
	h.tick(1)
	h.running(7)
	h.expect()
	h.tick(2)
	h.running()
	if got := h.b.Jobs(); len(got) != 0 || h.b.Cancel(7) {
		t.Errorf("behind the reply: jobs %v", got)
	}
	got := h.done()
	if want := []api.Reply{{Id: 7, Code: api.OK, Tokens: []int{0, 0}}}; !same(got, want) {
		t.Errorf("replies %+v; want %+v", got, want)
	}
	h.expect()
}

// 23.1: four jobs stand in the order in which they were started, whatever their ids are, and which of them run.
func TestFourJobs(t *testing.T) {
	h := open(t, 3)
	m := blank(t, wide())
	for _, id := range []int{9, 2, 999999, 0} {
		h.start(id, m, "", none, greedy(1, 8))
	}
	h.running()
	if got := h.b.Jobs(); !slices.Equal(got, []int{9, 2, 999999, 0}) {
		t.Errorf("jobs %v", got)
	}
	h.tick(1)
	h.running(9, 2, 999999)
	h.cancel(2)
	if got := h.b.Jobs(); !slices.Equal(got, []int{9, 999999, 0}) {
		t.Errorf("jobs %v", got)
	}
	h.start(2, m, "", none, greedy(1, 8))
	if got := h.b.Jobs(); !slices.Equal(got, []int{9, 999999, 0, 2}) {
		t.Errorf("jobs %v", got)
	}
}

// 23.1: a job that is cancelled, running or put off, is gone with its pages, and has let go of its adapter; no reply comes of it.
func TestCancel(t *testing.T) {
	d := &dice{3}
	c := wide()
	m, a := d.model(t, c), d.adapter(t, c, 1)
	for _, ticks := range []int{0, 1, 2} {
		for at := range 4 {
			h := open(t, 9)
			h.put("a", c, a)
			h.start(10, m, "a", a, greedy(1, 8))
			h.start(11, m, "", none, embed(9))
			h.start(12, m, "a", a, beams(1, 8, 3, -1))
			h.start(13, m, "a", a, greedy(4, 8))
			h.tick(ticks)
			h.cancel(10 + at)
			h.cancel(10 + at)
			h.expect()
			if slices.Contains(h.b.Jobs(), 10+at) || h.b.Running(10+at) {
				t.Errorf("behind %d Ticks %d is still there", ticks, 10+at)
			}
			for id := range 4 {
				h.cancel(10 + id)
			}
			h.pages("+a", min(ticks, 1)*2)
			if _, free, _ := h.p.Sizes(); free != 9-min(ticks, 1)*2 || h.s.Pins("a") != 0 {
				t.Errorf("behind %d Ticks, and with no jobs, %d pages are free, a is held %d times", ticks, free, h.s.Pins("a"))
			}
			h.tick(3)
			h.expect()
		}
	}
}

// 23.1: replies stand in the order in which they became ready, not in that of the jobs, and are handed out once.
func TestDoneOrder(t *testing.T) {
	d := &dice{4}
	h := open(t, 40)
	m := d.model(t, wide())
	h.start(3, m, "", none, greedy(3, 2))
	h.start(1, m, "", none, embed(2))
	h.start(2, m, "", none, embed(4))
	h.start(0, m, "", none, beams(1, 1, 2, -1))
	h.tick(1)
	h.start(9, m, "", none, embed(3))
	h.tick(3)
	h.expect(0, 1, 3, 2, 9)
	h.expect()
	h.start(3, m, "", none, embed(1))
	h.tick(1)
	h.expect(3)
}

// 23.1: a reply has tokens, or a vector, and the code OK.
func TestDoneFields(t *testing.T) {
	d := &dice{5}
	h := open(t, 40)
	m := d.model(t, wide())
	h.start(1, m, "", none, greedy(1, 3))
	h.start(2, m, "", none, embed(3))
	h.start(3, m, "", none, beams(1, 3, 2, -1))
	h.start(4, m, "", none, asking(greedy(1, 3), func(a *api.Ask) { a.Kind, a.TopK, a.Heat = api.Sample, 3, 1 }))
	h.tick(3)
	for i, r := range h.done() {
		tokens, vector := 3, 0
		if i == 1 {
			tokens, vector = 0, 8
		}
		if r.Id != i+1 || r.Code != 0 || len(r.Tokens) != tokens || len(r.Vector) != vector {
			t.Errorf("reply %+v", r)
		}
	}
}
