package batch

import (
	"slices"
	"strconv"

	"aviary/api"
	"aviary/attn"
	"aviary/beam"
	"aviary/draw"
	"aviary/graft"
	"aviary/kv"
	"aviary/model"
	"aviary/norm"
	"aviary/paged"
	"aviary/pick"
	"aviary/pool"
)

// try is a beam, and the rows of the prompt and of its tokens: of one that is done, or whose job is put off, there are none.
type try struct {
	beam.Beam
	rows *kv.Seq
}

// job is what is asked of a model and an adapter, and how far it has come.
type job struct {
	id      int
	model   api.Model
	name    string // of the adapter; empty: none
	adapter api.Adapter
	ask     api.Ask
	runs    bool
	tries   []try
	outs    [][]int64 // of Embed: what came out for each of the rows
}

// newJob is a job, put off, with one try without tokens; what is handed in was checked, and is copied.
func newJob(id int, m api.Model, name string, d api.Adapter, a api.Ask) *job {
	j := &job{id: id, model: copyOf(m), name: name, ask: a, tries: []try{{}}}
	j.ask.Prompt = slices.Clone(a.Prompt)
	if name != "" {
		// Shape refuses nothing here: these are the weights of a right adapter.
		j.adapter, _ = graft.Shape(d.Rank, d.Shift, m.Config, graft.Flat(d, m.Config))
	}
	return j
}

// copyOf is a model in memory of its own.
func copyOf(m api.Model) api.Model {
	m.Embed, m.Norm, m.Out = slices.Clone(m.Embed), slices.Clone(m.Norm), slices.Clone(m.Out)
	m.Layers = slices.Clone(m.Layers)
	for i := range m.Layers {
		l := &m.Layers[i]
		for _, list := range [...]*[]int8{&l.Norm1, &l.Q, &l.K, &l.V, &l.O, &l.Norm2, &l.Router} {
			*list = slices.Clone(*list)
		}
		l.Up, l.Down = copyEach(l.Up), copyEach(l.Down)
	}
	return m
}

// copyEach is lists in memory of their own.
func copyEach(lists [][]int8) [][]int8 {
	own := make([][]int8, len(lists))
	for i, list := range lists {
		own[i] = slices.Clone(list)
	}
	return own
}

// wholePages is how many pages hold the rows that the tries have when they are at their ends.
func (j *job) wholePages() int {
	// A row never lies in two pages, so that a page's last cells may stay empty.
	each := api.PageSize / model.Width(j.model.Config)
	pages := 0
	for _, t := range j.tries {
		if !t.Done {
			pages += (j.end(t) + each - 1) / each
		}
	}
	return pages
}

// weightPages is how many pages the adapter's weights take.
func (j *job) weightPages() int {
	return paged.Need(len(graft.Flat(j.adapter, j.model.Config)))
}

// nextPages is how many pages the next rows of all tries take at most.
func (j *job) nextPages() int {
	pages := 0
	for _, t := range j.tries {
		if !t.Done {
			pages += t.rows.Need()
		}
	}
	return pages
}

// run gives each try that is not done a sequence without rows.
func (j *job) run(p *pool.Pool) {
	for i := range j.tries {
		if !j.tries[i].Done {
			// New refuses nothing here: a right model's rows fit into a page.
			j.tries[i].rows, _ = kv.New(p, "r"+strconv.Itoa(j.id), model.Width(j.model.Config))
		}
	}
	j.runs = true
}

// rest lets go of all rows, and of what came out for them.
func (j *job) rest() {
	release(j.tries)
	j.outs = nil
	j.runs = false
}

// release lets go of the rows of tries, as far as they have any.
func release(tries []try) {
	for i := range tries {
		if tries[i].rows != nil {
			tries[i].rows.Release()
			tries[i].rows = nil
		}
	}
}

// step takes a try on by one row: what comes out for it.
func (j *job) step(t *try) ([]int64, api.Errno) {
	place, window := t.rows.Len(), j.model.Config.Window
	past, e := rowsFrom(t.rows, attn.Visible(place, window))
	if e != api.OK {
		return nil, e
	}
	row, out, e := model.Step(j.model, j.adapter, past, place, j.token(t, place))
	if e != api.OK {
		return nil, e
	}
	if e := t.rows.Append(row); e != api.OK {
		return nil, e
	}
	if window > 0 {
		t.rows.Keep(window - 1)
	}
	return out, api.OK
}

// rowsFrom is a sequence's rows, from one on.
func rowsFrom(s *kv.Seq, first int) ([][]int64, api.Errno) {
	var rows [][]int64
	for i := first; i < s.Len(); i++ {
		row, e := s.Row(i)
		if e != api.OK {
			return nil, e
		}
		rows = append(rows, row)
	}
	return rows, api.OK
}

// token is the token of the prompt and a try's tokens at a place.
func (j *job) token(t *try, place int) int {
	if place < len(j.ask.Prompt) {
		return j.ask.Prompt[place]
	}
	return t.Tokens[place-len(j.ask.Prompt)]
}

// end is how many tokens the prompt and a try have together.
func (j *job) end(t try) int {
	return len(j.ask.Prompt) + len(t.Tokens)
}

// atEnd tells whether a try has no row to come, till a token is put behind it.
func (j *job) atEnd(t try) bool {
	return t.Done || t.rows.Len() == j.end(t)
}

// allAtEnd tells whether all tries are at their ends.
func (j *job) allAtEnd() bool {
	return !slices.ContainsFunc(j.tries, func(t try) bool { return !j.atEnd(t) })
}

// allDone tells whether no more tokens follow in any try.
func (j *job) allDone() bool {
	return !slices.ContainsFunc(j.tries, func(t try) bool { return !t.Done })
}

// lengthen puts a token behind each try that is at its end and not done, by what came out for them.
func (j *job) lengthen(outs [][]int64) {
	scores := make([][]int64, len(outs))
	for i, out := range outs {
		// Scores refuses nothing here: what came out is as wide as the model.
		scores[i], _ = model.Scores(j.model, out)
	}
	if j.ask.Kind == api.Beam {
		j.grow(scores)
		return
	}
	t := &j.tries[0]
	token := j.choose(scores[0], len(t.Tokens))
	t.Tokens = append(t.Tokens, token)
	t.Done = token == j.ask.Stop || len(t.Tokens) >= j.ask.Length
}

// choose is the token with the number n of an answer that is one try.
func (j *job) choose(scores []int64, n int) int {
	if j.ask.Kind == api.Greedy {
		return pick.Max(scores)
	}
	// Heat refuses nothing here: gen.Check has asked it.
	heat, _ := draw.Heat(j.ask.Heat)
	return draw.Choose(scores, j.ask.TopK, heat, draw.Bits(j.ask.Seed, n))
}

// grow makes the tries the best ones with a token more.
func (j *job) grow(scores [][]int64) {
	// Grow refuses nothing here: there is a row of scores for each try that is not done.
	beams, places, _ := beam.Grow(beamsOf(j.tries), scores, j.ask.Beams, j.ask.Length, j.ask.Stop)
	grown := make([]try, len(beams))
	for i, one := range beams {
		grown[i].Beam = one
		if !one.Done {
			grown[i].rows = j.tries[places[i]].rows.Fork()
		}
	}
	// Released only now, so that pages of which there are forks stay with an owner.
	release(j.tries)
	j.tries = grown
}

// beamsOf is the tries' beams.
func beamsOf(tries []try) []beam.Beam {
	beams := make([]beam.Beam, len(tries))
	for i, t := range tries {
		beams[i] = t.Beam
	}
	return beams
}

// reply is the answer of a job that is ready.
func (j *job) reply() api.Reply {
	r := api.Reply{Id: j.id, Code: api.OK}
	switch j.ask.Kind {
	case api.Embed:
		r.Vector = meanOf(j.outs)
	case api.Beam:
		r.Tokens = j.tries[beam.Best(beamsOf(j.tries), j.ask.Penalty)].Tokens
	default:
		r.Tokens = j.tries[0].Tokens
	}
	return r
}

// meanOf is the mean of what came out, which is one row at least.
func meanOf(outs [][]int64) []int {
	mean, _ := norm.Mean(outs)
	list := make([]int, len(mean))
	for i, n := range mean {
		list[i] = int(n)
	}
	return list
}
