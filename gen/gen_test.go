package gen

import (
	"math"
	"slices"
	"testing"

	"aviary/api"
	"aviary/beam"
	"aviary/ckpt"
	"aviary/draw"
	"aviary/graft"
	"aviary/model"
	"aviary/norm"
	"aviary/pick"
)

const (
	least = math.MinInt
	most  = math.MaxInt
	whole = math.MaxUint64
)

// none is no adapter.
var none = api.Adapter{}

// mixed is numbers of all sizes, the same ones each time for a seed.
func mixed(count int, seed uint64) []int64 {
	list := make([]int64, count)
	state := 88172645463325252 ^ seed<<7
	for i := range list {
		state ^= state << 13
		state ^= state >> 7
		state ^= state << 17
		list[i] = int64(state) >> (state % 61)
	}
	return list
}

// weights is weights of a seed's kind: of all sizes, small ones, the least and greatest ones alone; the same ones each time for a seed.
func weights(count int, seed uint64) []int8 {
	list := make([]int8, count)
	for i, n := range mixed(count, seed) {
		switch seed % 4 {
		case 0, 1:
			list[i] = int8(n)
		case 2:
			list[i] = int8(n % 17)
		default:
			list[i] = []int8{-128, 127, 0, -127, 126, 1, -1}[uint64(n)%7]
		}
	}
	return list
}

// shaped is a model of a configuration and weights.
func shaped(t *testing.T, c api.Config, w []int8) api.Model {
	t.Helper()
	m, e := ckpt.Shape(c, w)
	if e != api.OK {
		t.Fatalf("no model of %+v: error %d", c, e)
	}
	return m
}

// build is a model of a configuration, the same one each time for a seed.
func build(t *testing.T, c api.Config, seed uint64) api.Model {
	t.Helper()
	m := shaped(t, c, weights(ckpt.Size(c), seed))
	if seed%5 == 0 {
		return m
	}
	// Most norms are near to one, so that what comes out is of ordinary size.
	for i := range c.Dim {
		m.Norm[i] = 64
		for _, l := range m.Layers {
			l.Norm1[i], l.Norm2[i] = 61, 67
		}
	}
	return m
}

// blank is a model whose weights are all 0.
func blank(t *testing.T, c api.Config) api.Model {
	t.Helper()
	return shaped(t, c, make([]int8, ckpt.Size(c)))
}

// buildAdapter is an adapter for a configuration, the same one each time for a seed; none of the rank 0.
func buildAdapter(t *testing.T, c api.Config, rank, shift int, seed uint64) api.Adapter {
	t.Helper()
	if rank == 0 {
		return none
	}
	a, e := graft.Shape(rank, shift, c, weights(c.Layers*4*rank*c.Dim, seed))
	if e != api.OK {
		t.Fatalf("no adapter for %+v: error %d", c, e)
	}
	return a
}

// adapterOf is no adapter, or one of a rank and a shift that hang on the seed.
func adapterOf(t *testing.T, c api.Config, seed uint64) api.Adapter {
	t.Helper()
	return buildAdapter(t, c, int(seed/4%5), int(seed/9%5), seed+777)
}

// configOf is a right configuration; those of many seeds are of all kinds.
func configOf(seed uint64) api.Config {
	shapes := [][2]int{{2, 1}, {4, 1}, {4, 2}, {6, 1}, {6, 3}, {8, 1}, {8, 2}, {8, 4}}
	experts := [][2]int{{0, 0}, {2, 1}, {2, 2}, {0, 0}, {3, 2}, {4, 1}, {4, 4}, {4, 3}}
	shape, chosen := shapes[seed%8], experts[seed/8%8]
	return api.Config{
		Dim: shape[0], Heads: shape[1], Layers: int(seed/3%2) + 1,
		Vocab: []int{16, 7, 3, 11, 2}[seed/5%5], Hidden: []int{1, 2, 3, 5, 8}[seed/7%5],
		Experts: chosen[0], TopK: chosen[1], Window: int(seed / 11 % 17),
	}
}

// tokensOf is so many tokens of a vocabulary, the same ones each time for a seed.
func tokensOf(count, vocab int, seed uint64) []int {
	list := make([]int, count)
	for i, n := range mixed(count, seed) {
		list[i] = int(uint64(n) % uint64(vocab))
	}
	return list
}

// kinds is all kinds that there are.
func kinds() []int { return []int{api.Greedy, api.Sample, api.Beam, api.Embed} }

// askOf is a right ask of a kind for a vocabulary; those of many seeds are of all kinds.
func askOf(kind, vocab int, seed uint64) api.Ask {
	n := mixed(8, seed+55)
	within := func(i, count int) int { return int(uint64(n[i]) % uint64(count)) }
	count := within(0, 23) + 1
	return api.Ask{
		Kind: kind, Prompt: tokensOf(count, vocab, seed), Length: within(1, 24-count) + 1,
		Stop: within(2, vocab+1) - 1, Seed: uint64(n[3]), TopK: within(4, vocab) + 1,
		Heat: heats()[seed%uint64(len(heats()))], Beams: within(5, 4) + 1, Penalty: within(6, 65),
	}
}

// heats is heats that are numbers, of all kinds.
func heats() []float64 {
	return []float64{
		1, 0.5, 8, 0.02, 3, 100, 32767, 32768, 1e300, math.MaxFloat64, math.Inf(1), 0.25, 2,
		0, math.Copysign(0, -1), -0.5, -1, -1e300, math.Inf(-1), 1e-9, math.SmallestNonzeroFloat64, 1.0 / 65536, 0.7,
	}
}

// wrongConfigs is configurations that are not right, each for one reason alone.
func wrongConfigs() []api.Config {
	good := api.Config{Dim: 4, Heads: 2, Layers: 2, Vocab: 4, Hidden: 3, Experts: 2, TopK: 1, Window: 2}
	var list []api.Config
	add := func(change func(*api.Config, int), numbers ...int) {
		for _, n := range numbers {
			c := good
			change(&c, n)
			list = append(list, c)
		}
	}
	far := []int{least, -1 << 32, 1 << 32, 1 << 61, 1 << 62, most}
	add(func(c *api.Config, n int) { c.Dim = n }, append(far, -4, -2, -1, 0, 1, 2, 3, 5, 6, 7, 9, 10, 12, 16)...)
	add(func(c *api.Config, n int) { c.Heads = n }, append(far, -2, -1, 0, 3, 4, 5)...)
	add(func(c *api.Config, n int) { c.Layers = n }, append(far, -1, 0, 3, 4)...)
	add(func(c *api.Config, n int) { c.Vocab = n }, append(far, -1, 0, 1, 17)...)
	add(func(c *api.Config, n int) { c.Hidden = n }, append(far, -1, 0, 9)...)
	add(func(c *api.Config, n int) { c.Experts = n }, append(far, -1, 0, 1, 5)...)
	add(func(c *api.Config, n int) { c.TopK = n }, append(far, -1, 0, 3, 4)...)
	add(func(c *api.Config, n int) { c.Window = n }, append(far, -1, 17)...)
	return append(list, api.Config{})
}

// wantScores is the scores behind tokens.
func wantScores(t *testing.T, m api.Model, d api.Adapter, tokens ...int) []int64 {
	t.Helper()
	_, outs, e := model.Run(m, d, tokens)
	scores, other := model.Scores(m, outs[len(tokens)-1])
	if e != api.OK || other != api.OK {
		t.Fatalf("no scores of %+v behind %v: errors %d, %d", m.Config, tokens, e, other)
	}
	return scores
}

// wantTokens follows 20.2 of Greedy and Sample, one step behind the other.
func wantTokens(t *testing.T, m api.Model, d api.Adapter, a api.Ask) []int {
	t.Helper()
	all := slices.Clone(a.Prompt)
	for n := range a.Length {
		scores := wantScores(t, m, d, all...)
		token := pick.Max(scores)
		if a.Kind == api.Sample {
			heat, _ := draw.Heat(a.Heat)
			token = draw.Choose(scores, a.TopK, heat, draw.Bits(a.Seed, n))
		}
		all = append(all, token)
		if token == a.Stop {
			break
		}
	}
	return all[len(a.Prompt):]
}

// wantTries follows 20.2 of Beam, up to the beams that are all done.
func wantTries(t *testing.T, m api.Model, d api.Adapter, a api.Ask) []beam.Beam {
	t.Helper()
	l := []beam.Beam{{Tokens: nil, Score: 0, Done: false}}
	for {
		var scores [][]int64
		for _, b := range l {
			if !b.Done {
				scores = append(scores, wantScores(t, m, d, append(slices.Clone(a.Prompt), b.Tokens...)...))
			}
		}
		if len(scores) == 0 {
			return l
		}
		var e api.Errno
		if l, _, e = beam.Grow(l, scores, a.Beams, a.Length, a.Stop); e != api.OK {
			t.Fatalf("Grow for %+v: error %d", a, e)
		}
	}
}

// wantAnswer follows 20.2 for a request that is right.
func wantAnswer(t *testing.T, m api.Model, d api.Adapter, a api.Ask) (tokens, vector []int) {
	t.Helper()
	switch a.Kind {
	case api.Embed:
		_, outs, _ := model.Run(m, d, a.Prompt)
		mean, e := norm.Mean(outs)
		if e != api.OK {
			t.Fatalf("no mean for %+v: error %d", a, e)
		}
		for _, n := range mean {
			vector = append(vector, int(n))
		}
	case api.Beam:
		l := wantTries(t, m, d, a)
		tokens = l[beam.Best(l, a.Penalty)].Tokens
	default:
		tokens = wantTokens(t, m, d, a)
	}
	return tokens, vector
}

// checkAnswer holds an answer against tokens and a vector.
func checkAnswer(t *testing.T, m api.Model, d api.Adapter, a api.Ask, tokens, vector []int) {
	t.Helper()
	if l, v, e := Answer(m, d, a); !slices.Equal(l, tokens) || !slices.Equal(v, vector) || e != api.OK {
		t.Errorf("Answer of %+v, rank %d, to %+v: %v, %v, error %d, not %v, %v", m.Config, d.Rank, a, l, v, e, tokens, vector)
	}
}

// checkTokens holds an answer without a vector against its tokens.
func checkTokens(t *testing.T, m api.Model, d api.Adapter, a api.Ask, tokens ...int) {
	t.Helper()
	checkAnswer(t, m, d, a, tokens, nil)
}

// sameAnswer holds an answer against the chapter's steps.
func sameAnswer(t *testing.T, m api.Model, d api.Adapter, a api.Ask) {
	t.Helper()
	tokens, vector := wantAnswer(t, m, d, a)
	checkAnswer(t, m, d, a, tokens, vector)
}

// refuse holds an answer against an error, beside which there is nothing.
func refuse(t *testing.T, m api.Model, d api.Adapter, a api.Ask, want api.Errno) {
	t.Helper()
	if l, v, e := Answer(m, d, a); len(l) != 0 || len(v) != 0 || e != want {
		t.Errorf("Answer of %+v, rank %d, to %+v: %v, %v, error %d, not %d", m.Config, d.Rank, a, l, v, e, want)
	}
}
