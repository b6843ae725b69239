package model

import (
	"aviary/api"
	"aviary/attn"
	"aviary/expert"
	"aviary/graft"
	"aviary/norm"
	"aviary/turn"
	"aviary/vec"
)

// embedUnit is what a weight of one 64th is as a number.
const embedUnit = api.One / 64

// step is Step's row and what comes out; its error is thrown. Model and adapter are checked.
func step(m api.Model, a api.Adapter, past [][]int64, place, token int) ([]int64, []int64) {
	c := m.Config
	need(0 <= place && place < api.MaxLen, api.ErrRange)
	need(0 <= token && token < c.Vocab, api.ErrRange)
	need(fits(past, place-attn.Visible(place, c.Window), Width(c)), api.ErrShape)
	row := make([]int64, 0, Width(c))
	x := embedded(m, token)
	for i := range m.Layers {
		q, k, v := looks(m, a, i, place, x)
		// Past's rows are laid as this one is: a layer's part begins where those of the layers ahead of it end.
		from := len(row)
		keys, values := cutEach(past, from, c.Dim), cutEach(past, from+c.Dim, c.Dim)
		o := must(attn.All(q, append(keys, k), append(values, v), c.Heads))
		row = append(append(row, k...), v...)
		x = worked(m, i, x, o)
	}
	return row, must(norm.Rms(x, m.Norm))
}

// fits is whether there are so many rows, all of that width.
func fits(rows [][]int64, count, width int) bool {
	if len(rows) != count {
		return false
	}
	for _, row := range rows {
		if len(row) != width {
			return false
		}
	}
	return true
}

// embedded is a token's weights as numbers.
func embedded(m api.Model, token int) []int64 {
	x := make([]int64, m.Config.Dim)
	for i := range x {
		x[i] = int64(m.Embed[token*len(x)+i]) * embedUnit
	}
	return x
}

// looks is the queries, keys and values that a layer makes of a row.
func looks(m api.Model, a api.Adapter, layer, place int, x []int64) (q, k, v []int64) {
	c, l := m.Config, m.Layers[layer]
	h := must(norm.Rms(x, l.Norm1))
	q = must(vec.Mat(l.Q, c.Dim, h))
	k = must(vec.Mat(l.K, c.Dim, h))
	v = must(vec.Mat(l.V, c.Dim, h))
	if grafted(a) {
		g := a.Layers[layer]
		q = must(vec.Add(q, must(graft.Apply(g.QA, g.QB, a.Rank, a.Shift, h))))
		v = must(vec.Add(v, must(graft.Apply(g.VA, g.VB, a.Rank, a.Shift, h))))
	}
	// Values are not turned: places tell only how well keys fit.
	return must(turn.Heads(q, c.Heads, place)), must(turn.Heads(k, c.Heads, place)), v
}

// cutEach is the part of each row that begins there, so many numbers long, with room for a token's own behind them.
func cutEach(rows [][]int64, from, count int) [][]int64 {
	parts := make([][]int64, len(rows), len(rows)+1)
	for i, row := range rows {
		parts[i] = row[from : from+count : from+count]
	}
	return parts
}

// worked is what a layer makes of a row, and of what came of looking at others.
func worked(m api.Model, layer int, x, o []int64) []int64 {
	c, l := m.Config, m.Layers[layer]
	x = must(vec.Add(x, must(vec.Mat(l.O, c.Dim, o))))
	h := must(norm.Rms(x, l.Norm2))
	return must(vec.Add(x, must(expert.Mix(l.Router, l.Up, l.Down, c.Hidden, c.TopK, h))))
}
