package batch

import (
	"math"
	"slices"
	"testing"

	"aviary/api"
	"aviary/ckpt"
	"aviary/gen"
	"aviary/graft"
)

const (
	least = math.MinInt
	most  = math.MaxInt
)

// none is no adapter.
var none = api.Adapter{}

// ends is numbers at the ends of 64 bits, and of fewer, where a number that is cut short would be a small one.
func ends() []int {
	return []int{least, least + 1, -1 << 32, -1<<32 + 1, -1 << 31, -1 << 16, -256, -255, -16, -1, 1 << 16, 1<<16 + 1, 1 << 31, 1 << 32, 1<<32 + 1, 1<<32 + 2, 1 << 62, most - 1, most}
}

// dice draws numbers, the same ones each time for a state.
type dice struct {
	state uint64
}

// roll is a number from 0 to one less than the sides.
func (d *dice) roll(sides int) int {
	d.state += 0x9E3779B97F4A7C15
	z := d.state
	z = (z ^ z>>30) * 0xBF58476D1CE4E5B9
	z = (z ^ z>>27) * 0x94D049BB133111EB
	return int((z ^ z>>31) % uint64(sides))
}

// weights is so many weights of all sizes.
func (d *dice) weights(count int) []int8 {
	list := make([]int8, count)
	for i := range list {
		list[i] = int8(d.roll(256))
	}
	return list
}

// tokens is so many tokens of a vocabulary.
func (d *dice) tokens(count, vocab int) []int {
	list := make([]int, count)
	for i := range list {
		list[i] = d.roll(vocab)
	}
	return list
}

// config is a right configuration of any kind.
func (d *dice) config() api.Config {
	shape := [][2]int{{2, 1}, {4, 1}, {4, 2}, {6, 1}, {6, 3}, {8, 1}, {8, 2}, {8, 4}}[d.roll(8)]
	nets := [][2]int{{0, 0}, {0, 0}, {2, 1}, {3, 2}, {4, 4}}[d.roll(5)]
	return api.Config{
		Dim: shape[0], Heads: shape[1], Layers: 1 + d.roll(2), Vocab: 2 + d.roll(5), Hidden: 1 + d.roll(3),
		Experts: nets[0], TopK: nets[1], Window: []int{0, 0, 1, 2, 3, 5, 9, 16}[d.roll(8)],
	}
}

// model is a model of a configuration, whose norms are near to one, so that what comes out is of ordinary size.
func (d *dice) model(t *testing.T, c api.Config) api.Model {
	t.Helper()
	m := shaped(t, c, d.weights(ckpt.Size(c)))
	for i := range c.Dim {
		m.Norm[i] = 64
		for _, l := range m.Layers {
			l.Norm1[i], l.Norm2[i] = 61, 67
		}
	}
	return m
}

// adapter is an adapter for a configuration, that is strong enough to change answers.
func (d *dice) adapter(t *testing.T, c api.Config, rank int) api.Adapter {
	t.Helper()
	a, e := graft.Shape(rank, d.roll(3), c, d.weights(c.Layers*4*rank*c.Dim))
	if e != api.OK {
		t.Fatalf("no adapter of the rank %d for %+v: error %d", rank, c, e)
	}
	return a
}

// ask is a right ask of any kind, most often a short one.
func (d *dice) ask(vocab int) api.Ask {
	longest := 2 + d.roll(10)
	if d.roll(6) == 0 {
		longest = api.MaxLen
	}
	count := 1 + d.roll(longest-1)
	return api.Ask{
		Kind: 1 + d.roll(4), Prompt: d.tokens(count, vocab), Length: 1 + d.roll(longest-count), Stop: d.roll(vocab+2) - 2,
		Seed: uint64(d.roll(1000)), TopK: 1 + d.roll(vocab), Heat: []float64{0, 1, 0.3, 7, 1000, math.Inf(1)}[d.roll(6)],
		Beams: 1 + d.roll(4), Penalty: d.roll(65),
	}
}

// shaped is a model of a configuration and weights.
func shaped(t *testing.T, c api.Config, w []int8) api.Model {
	t.Helper()
	m, e := ckpt.Shape(c, w)
	if e != api.OK {
		t.Fatalf("no model of %+v: error %d", c, e)
	}
	return m
}

// blank is a model whose weights are all 0, so that the scores of all tokens are the same.
func blank(t *testing.T, c api.Config) api.Model {
	t.Helper()
	return shaped(t, c, make([]int8, ckpt.Size(c)))
}

// wide is a configuration of which one row fits into a page; an adapter's weights take two pages for each of its rank.
func wide() api.Config {
	return api.Config{Dim: 8, Heads: 2, Layers: 2, Vocab: 5, Hidden: 2}
}

// narrow is a configuration of which eight rows fit into a page.
func narrow() api.Config {
	return api.Config{Dim: 2, Heads: 1, Layers: 1, Vocab: 5, Hidden: 2}
}

// windowed is a configuration with a window.
func windowed(c api.Config, window int) api.Config {
	c.Window = window
	return c
}

// greedy is an ask of that kind, without a stop, whose prompt has so many tokens.
func greedy(prompt, length int) api.Ask {
	return api.Ask{Kind: api.Greedy, Prompt: ladder(prompt), Length: length, Stop: -1}
}

// beams is an ask of that kind.
func beams(prompt, length, width, stop int) api.Ask {
	return api.Ask{Kind: api.Beam, Prompt: ladder(prompt), Length: length, Stop: stop, Beams: width}
}

// embed is an ask of that kind.
func embed(prompt int) api.Ask {
	return api.Ask{Kind: api.Embed, Prompt: ladder(prompt)}
}

// ladder is so many tokens, 0 and 1 by turns.
func ladder(count int) []int {
	list := make([]int, count)
	for i := range list {
		list[i] = i % 2
	}
	return list
}

// asking is an ask that is changed.
func asking(a api.Ask, change func(a *api.Ask)) api.Ask {
	a.Prompt = slices.Clone(a.Prompt)
	change(&a)
	return a
}

// answer is what the reply to a job must be.
func answer(t *testing.T, id int, m api.Model, d api.Adapter, a api.Ask) api.Reply {
	t.Helper()
	tokens, vector, e := gen.Answer(m, d, a)
	if e != api.OK {
		t.Fatalf("no answer to %+v: error %d", a, e)
	}
	return api.Reply{Id: id, Tokens: tokens, Vector: vector}
}

// same tells whether two lists of replies are the same.
func same(a, b []api.Reply) bool {
	return slices.EqualFunc(a, b, func(a, b api.Reply) bool {
		return a.Id == b.Id && a.Code == b.Code && slices.Equal(a.Tokens, b.Tokens) && slices.Equal(a.Vector, b.Vector)
	})
}
