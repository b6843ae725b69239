package gen

import (
	"slices"

	"aviary/api"
	"aviary/beam"
	"aviary/ckpt"
	"aviary/draw"
	"aviary/graft"
	"aviary/model"
	"aviary/norm"
	"aviary/pick"
)

// request is a model, the adapter beside it, and what is asked of both.
type request struct {
	model   api.Model
	adapter api.Adapter
	ask     api.Ask
}

// Answer is the answer of a model, with an adapter or without.
func Answer(m api.Model, d api.Adapter, a api.Ask) ([]int, []int, api.Errno) {
	r := request{model: m, adapter: d, ask: a}
	if e := r.check(); e != api.OK {
		return nil, nil, e
	}
	switch a.Kind {
	case api.Embed:
		vector, e := r.vector()
		return nil, vector, e
	case api.Beam:
		tokens, e := r.tried()
		return tokens, nil, e
	}
	tokens, e := r.tokens()
	return tokens, nil, e
}

// check tells what is wrong with a request.
func (r request) check() api.Errno {
	if e := ckpt.Check(r.model); e != api.OK {
		return e
	}
	if r.adapter.Rank != 0 {
		if e := graft.Check(r.adapter, r.model.Config); e != api.OK {
			return e
		}
	}
	return Check(r.model.Config, r.ask)
}

// vector is the mean of all that comes out of the prompt.
func (r request) vector() ([]int, api.Errno) {
	_, outs, e := model.Run(r.model, r.adapter, r.ask.Prompt)
	if e != api.OK {
		return nil, e
	}
	mean, e := norm.Mean(outs)
	if e != api.OK {
		return nil, e
	}
	list := make([]int, len(mean))
	for i, n := range mean {
		list[i] = int(n)
	}
	return list, api.OK
}

// tokens is the answer's tokens, each chosen behind those ahead of it.
func (r request) tokens() ([]int, api.Errno) {
	var tokens []int
	for len(tokens) < r.ask.Length {
		token, e := r.next(tokens)
		if e != api.OK {
			return nil, e
		}
		tokens = append(tokens, token)
		if token == r.ask.Stop {
			break
		}
	}
	return tokens, api.OK
}

// next is the token that follows the prompt and these tokens.
func (r request) next(tokens []int) (int, api.Errno) {
	scores, e := r.scores(tokens)
	if e != api.OK {
		return 0, e
	}
	if r.ask.Kind == api.Greedy {
		return pick.Max(scores), api.OK
	}
	heat, e := draw.Heat(r.ask.Heat)
	if e != api.OK {
		return 0, e
	}
	return draw.Choose(scores, r.ask.TopK, heat, draw.Bits(r.ask.Seed, len(tokens))), api.OK
}

// scores is the scores behind the prompt and these tokens.
func (r request) scores(tokens []int) ([]int64, api.Errno) {
	// Joined in memory of their own: the room behind the prompt is not ours.
	_, outs, e := model.Run(r.model, r.adapter, slices.Concat(r.ask.Prompt, tokens))
	if e != api.OK {
		return nil, e
	}
	return model.Scores(r.model, outs[len(outs)-1])
}

// tried is the answer's tokens, of several tries.
func (r request) tried() ([]int, api.Errno) {
	tries, e := r.tries()
	if e != api.OK {
		return nil, e
	}
	return r.best(tries), api.OK
}

// best is the tokens of the best of tries.
func (r request) best(tries []beam.Beam) []int {
	return tries[beam.Best(tries, r.ask.Penalty)].Tokens
}

// tries is the beams that are left when all are done.
func (r request) tries() ([]beam.Beam, api.Errno) {
	beams := []beam.Beam{{}}
	for slices.ContainsFunc(beams, open) {
		rows, e := r.scoresOfOpen(beams)
		if e != api.OK {
			return nil, e
		}
		beams, _, e = beam.Grow(beams, rows, r.ask.Beams, r.ask.Length, r.ask.Stop)
		if e != api.OK {
			return nil, e
		}
	}
	return beams, api.OK
}

// scoresOfOpen is a row of scores for each beam that is not done.
func (r request) scoresOfOpen(beams []beam.Beam) ([][]int64, api.Errno) {
	var rows [][]int64
	for _, b := range beams {
		if !open(b) {
			continue
		}
		row, e := r.scores(b.Tokens)
		if e != api.OK {
			return nil, e
		}
		rows = append(rows, row)
	}
	return rows, api.OK
}

// open tells whether a beam goes on.
func open(b beam.Beam) bool { return !b.Done }
