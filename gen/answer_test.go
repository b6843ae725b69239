package gen

import (
	"math"
	"slices"
	"testing"

	"aviary/api"
	"aviary/beam"
	"aviary/draw"
	"aviary/norm"
)

// stride is by how much a seed is greater whose numbers begin with the second one's.
const stride = 0x9E3779B97F4A7C15

// greedy is an ask of Greedy without a stop.
func greedy(length int, prompt ...int) api.Ask {
	return api.Ask{Kind: api.Greedy, Prompt: prompt, Length: length, Stop: -1}
}

// asking is an ask with some fields changed.
func asking(a api.Ask, change func(a *api.Ask)) api.Ask {
	change(&a)
	return a
}

// The chapter's example: a model whose weights are all 0.
func TestExample(t *testing.T) {
	for seed := range uint64(150) {
		c := configOf(seed)
		m, d := blank(t, c), adapterOf(t, c, seed)
		a := greedy(3, 1)
		checkTokens(t, m, d, a, 0, 0, 0)
		a.Stop = 0
		checkTokens(t, m, d, a, 0)
		a.Stop = 1
		checkTokens(t, m, d, a, 0, 0, 0)
		checkAnswer(t, m, d, api.Ask{Kind: api.Embed, Prompt: []int{1}}, nil, make([]int, c.Dim))
	}
}

// chained is a model in which each token's followers hang on that token alone: behind the token i the token j's score is as great as the weight there says.
func chained(t *testing.T, weight func(i, j int) int8) api.Model {
	t.Helper()
	m := blank(t, api.Config{Dim: 8, Heads: 2, Layers: 1, Vocab: 8, Hidden: 1})
	for i := range 8 {
		m.Embed[8*i+i], m.Norm[i] = 64, 64
		for j := range 8 {
			m.Out[8*j+i] = weight(i, j)
		}
	}
	return m
}

// ring is a model in which each token is followed by the next one, that one by one with half its score, and the last one by the first.
func ring(t *testing.T) api.Model {
	t.Helper()
	return chained(t, func(i, j int) int8 {
		switch j {
		case (i + 1) % 8:
			return 64
		case (i + 2) % 8:
			return 32
		}
		return 0
	})
}

// cold is all kinds that answer with the best tokens alone.
func cold(a api.Ask) []api.Ask {
	return []api.Ask{
		a,
		asking(a, func(a *api.Ask) { a.Kind, a.TopK, a.Heat, a.Seed = api.Sample, 1, 3, 99 }),
		asking(a, func(a *api.Ask) { a.Kind, a.TopK, a.Heat, a.Seed = api.Sample, 2, -1, 99 }),
		asking(a, func(a *api.Ask) { a.Kind, a.Beams, a.Penalty = api.Beam, 1, 0 }),
		asking(a, func(a *api.Ask) { a.Kind, a.Beams, a.Penalty = api.Beam, 3, 64 }),
	}
}

// 20.2: tokens one behind the other, by hand: the last token alone tells the next one.
func TestRing(t *testing.T) {
	m := ring(t)
	for _, c := range []struct {
		prompt []int
		length int
		want   []int
	}{
		{[]int{3}, 1, []int{4}},
		{[]int{3}, 5, []int{4, 5, 6, 7, 0}},
		{[]int{7, 7, 2, 1}, 3, []int{2, 3, 4}},
		{[]int{0}, 23, []int{1, 2, 3, 4, 5, 6, 7, 0, 1, 2, 3, 4, 5, 6, 7, 0, 1, 2, 3, 4, 5, 6, 7}},
		{slices.Repeat([]int{5}, 23), 1, []int{6}},
	} {
		for _, a := range cold(greedy(c.length, c.prompt...)) {
			checkTokens(t, m, none, a, c.want...)
		}
	}
}

// 20.2: a Stop is the last token, whether it comes first, in the middle, last or never; in the prompt it is none.
func TestStop(t *testing.T) {
	m := ring(t)
	for stop, want := range map[int][]int{
		least: {4, 5, 6, 7, 0}, -1: {4, 5, 6, 7, 0},
		4: {4}, 5: {4, 5}, 6: {4, 5, 6}, 7: {4, 5, 6, 7}, 0: {4, 5, 6, 7, 0},
		1: {4, 5, 6, 7, 0}, 2: {4, 5, 6, 7, 0}, 3: {4, 5, 6, 7, 0},
	} {
		for _, a := range cold(greedy(5, 1, 2, 3)) {
			a.Stop = stop
			checkTokens(t, m, none, a, want...)
		}
	}
	for _, a := range cold(greedy(1, 3)) {
		for stop := -1; stop < 8; stop++ {
			a.Stop = stop
			checkTokens(t, m, none, a, 4)
		}
	}
}

// 20.2: of the same scores the least token is the best one.
func TestSameScores(t *testing.T) {
	m := chained(t, func(i, j int) int8 {
		if j == 5 || j == 3 || j == 6 {
			return 64
		}
		return -64
	})
	for _, a := range cold(greedy(4, 7)) {
		checkTokens(t, m, none, a, 3, 3, 3, 3)
	}
}

// 20.2: Sample by hand: where all scores are the same, shares are, and the seed's numbers alone tell the tokens. The numbers of seed 0 end in CDAF, 65F4, 454F, 81EC and 749B (hexadecimal).
func TestSampleByHand(t *testing.T) {
	for _, prompt := range [][]int{{0}, {1}, {1, 0, 1, 1}, slices.Repeat([]int{1}, 19)} {
		for _, heat := range []float64{1.0 / 65536, 0.5, 1, 700, math.Inf(1)} {
			for _, vocab := range []int{4, 9, 16} {
				m := blank(t, api.Config{Dim: 2, Heads: 1, Layers: 1, Vocab: vocab, Hidden: 1})
				a := api.Ask{Kind: api.Sample, Prompt: prompt, Length: 5, Stop: -1, Heat: heat, TopK: 2}
				checkTokens(t, m, none, a, 1, 0, 0, 1, 0)
				checkTokens(t, m, none, asking(a, func(a *api.Ask) { a.Stop = 0 }), 1, 0)
				checkTokens(t, m, none, asking(a, func(a *api.Ask) { a.Length = 4 }), 1, 0, 0, 1)
				a.TopK = 4
				checkTokens(t, m, none, a, 3, 1, 1, 2, 1)
				checkTokens(t, m, none, asking(a, func(a *api.Ask) { a.Stop = 2 }), 3, 1, 1, 2)
				checkTokens(t, m, none, asking(a, func(a *api.Ask) { a.Seed -= stride }), tokenOf(draw.Bits(0, -1)), 3, 1, 1, 2)
			}
		}
	}
}

// tokenOf is the token of four with the same shares to which a number falls.
func tokenOf(u uint64) int { return int(u % 65536 / 16384) }

// 20.2: the number of the token counts, from 0 on, without the prompt: with a seed that is greater by the stride the tokens begin one later.
func TestSampleCounts(t *testing.T) {
	m := blank(t, api.Config{Dim: 2, Heads: 1, Layers: 1, Vocab: 4, Hidden: 1})
	for _, seed := range []uint64{0, 1, 2, 255, 1 << 31, 1<<32 - 1, 1 << 32, 1<<53 + 1, 1 << 63, whole - 1, whole, stride} {
		for count := 1; count <= 23; count++ {
			a := api.Ask{Kind: api.Sample, Prompt: make([]int, count), Length: 24 - count, Stop: -1, TopK: 4, Heat: 1, Seed: seed}
			var want []int
			for n := range a.Length {
				want = append(want, tokenOf(draw.Bits(seed, n)))
			}
			checkTokens(t, m, none, a, want...)
			a.Seed += stride
			checkTokens(t, m, none, a, append(want[1:], tokenOf(draw.Bits(seed, a.Length)))...)
		}
	}
}

// 20.2: the heat is what Heat makes of it: a low one leaves the best token alone, a great one makes all the same.
func TestSampleHeat(t *testing.T) {
	m := ring(t)
	ask := func(heat float64, seed uint64) []int {
		tokens, _, _ := Answer(m, none, api.Ask{Kind: api.Sample, Prompt: []int{0}, Length: 23, Stop: -1, TopK: 8, Heat: heat, Seed: seed})
		return tokens
	}
	best, _, _ := Answer(m, none, greedy(23, 0))
	for seed := range uint64(40) {
		for _, heat := range []float64{0.01, 0.0001, 0.4 / 65536, 0, -3} {
			if tokens := ask(heat, seed); !slices.Equal(tokens, best) {
				t.Errorf("heat %v, seed %d: %v", heat, seed, tokens)
			}
		}
		if hot, infinite := ask(40000, seed), ask(math.Inf(1), seed); !slices.Equal(hot, infinite) || slices.Equal(hot, best) {
			t.Errorf("seed %d: %v, and %v of an infinite heat", seed, hot, infinite)
		}
	}
}

// 20.2: Embed by hand: the mean of what comes out for each token, cut off towards 0.
func TestEmbedByHand(t *testing.T) {
	m := blank(t, api.Config{Dim: 2, Heads: 1, Layers: 1, Vocab: 3, Hidden: 1})
	// One twice is 65535 twice behind a norm (chapter 5's example).
	m.Embed, m.Norm = []int8{0, 0, 64, 64, -64, 64}, []int8{64, 64}
	for _, c := range []struct{ prompt, want []int }{
		{[]int{0}, []int{0, 0}},
		{[]int{1}, []int{65535, 65535}},
		{[]int{2}, []int{-65535, 65535}},
		{[]int{1, 0}, []int{32767, 32767}},
		{[]int{0, 2}, []int{-32767, 32767}},
		{[]int{1, 2}, []int{0, 65535}},
		{[]int{1, 1, 2}, []int{21845, 65535}},
		{[]int{2, 0, 0, 0}, []int{-16383, 16383}},
		{append(make([]int, 23), 2), []int{-2730, 2730}},
	} {
		a := api.Ask{Kind: api.Embed, Prompt: c.prompt, Length: -9, Stop: 99, TopK: -1, Heat: math.NaN(), Beams: 9, Penalty: -1}
		checkAnswer(t, m, none, a, nil, c.want)
	}
}

// swaying is a model in which each of two tokens is followed by itself, and an adapter by which the first one is followed by the second.
func swaying(t *testing.T) (api.Model, api.Adapter) {
	t.Helper()
	m := blank(t, api.Config{Dim: 2, Heads: 1, Layers: 1, Vocab: 2, Hidden: 1})
	unit := []int8{64, 0, 0, 64}
	m.Embed, m.Out, m.Norm = unit, unit, []int8{64, 64}
	m.Layers[0].O, m.Layers[0].Norm1 = unit, []int8{64, 64}
	lists := api.Graft{QA: make([]int8, 2), QB: make([]int8, 2), VA: []int8{64, 0}, VB: []int8{-127, 127}}
	return m, api.Adapter{Rank: 1, Layers: []api.Graft{lists}}
}

// 20.2: an adapter stands beside the model in each kind; of the rank 0 it is none, whatever else it has.
func TestAdapter(t *testing.T) {
	m, d := swaying(t)
	for _, a := range cold(greedy(3, 0)) {
		checkTokens(t, m, none, a, 0, 0, 0)
		checkTokens(t, m, d, a, 1, 1, 1)
		a.Prompt = []int{1}
		checkTokens(t, m, none, a, 1, 1, 1)
		checkTokens(t, m, d, a, 1, 1, 1)
		a.Prompt = []int{0}
		for _, shift := range []int{least, -1, 9, most} {
			checkTokens(t, m, api.Adapter{Shift: shift, Layers: d.Layers}, a, 0, 0, 0)
			checkTokens(t, m, api.Adapter{Shift: shift, Layers: make([]api.Graft, 5)}, a, 0, 0, 0)
		}
	}
	a := api.Ask{Kind: api.Embed, Prompt: []int{0}}
	bare, _ := norm.Rms([]int64{65536, 0}, []int8{64, 64})
	// What the norm made of one and nought is the value's part, twice less a 64th, once below 0.
	h := float64(bare[0])
	v := int64(math.Round(h * 127 / 64))
	grafted, _ := norm.Rms([]int64{65536 - v, v}, []int8{64, 64})
	checkAnswer(t, m, none, a, nil, []int{int(bare[0]), int(bare[1])})
	checkAnswer(t, m, d, a, nil, []int{int(grafted[0]), int(grafted[1])})
}

// 20.2: answers of all kinds, models, adapters and asks, held against the chapter's steps.
func TestAnswers(t *testing.T) {
	for seed := range uint64(400) {
		c := configOf(seed)
		m, d := build(t, c, seed), adapterOf(t, c, seed)
		for _, kind := range kinds() {
			sameAnswer(t, m, d, askOf(kind, c.Vocab, seed))
		}
	}
}

// 20.2: models with and without experts, with each window, and adapters of each rank beside them.
func TestAnswersOfEachWindow(t *testing.T) {
	for window := 0; window <= api.MaxWindow; window++ {
		for i, experts := range [][2]int{{0, 0}, {3, 2}} {
			c := api.Config{Dim: 4, Heads: 2, Layers: 2, Vocab: 16, Hidden: 3, Experts: experts[0], TopK: experts[1], Window: window}
			m := build(t, c, uint64(window*4+i))
			for rank := 0; rank <= api.MaxRank; rank++ {
				d := buildAdapter(t, c, rank, rank, uint64(window+10*rank))
				for _, kind := range kinds() {
					sameAnswer(t, m, d, api.Ask{Kind: kind, Prompt: tokensOf(18, 16, uint64(i)), Length: 4, Stop: -1, Seed: 4, TopK: 5, Heat: 2, Beams: 2, Penalty: 16})
				}
			}
		}
	}
}

// 20.2: prompts and Lengths of all sizes.
func TestAnswersOfEachLength(t *testing.T) {
	c := configOf(28)
	m, d := build(t, c, 28), adapterOf(t, c, 28)
	for count := 1; count <= 24; count++ {
		prompt := tokensOf(count, c.Vocab, uint64(count))
		sameAnswer(t, m, d, api.Ask{Kind: api.Embed, Prompt: prompt})
		for length := 1; length <= 24-count; length++ {
			a := greedy(length, prompt...)
			sameAnswer(t, m, d, a)
			a.Kind, a.TopK, a.Heat, a.Seed = api.Sample, c.Vocab, 3, 1<<60+uint64(length)
			sameAnswer(t, m, d, a)
			a.Kind, a.Beams, a.Penalty = api.Beam, 1+length%4, length
			sameAnswer(t, m, d, a)
		}
	}
}

// 20.2: seeds, numbers of tokens to choose from, and heats of all kinds.
func TestAnswersOfEachHeat(t *testing.T) {
	for i, heat := range heats() {
		for j, seed := range []uint64{0, 1, 77, 1 << 31, 1 << 32, 1<<63 - 1, 1 << 63, whole - 1, whole} {
			c := configOf(uint64(50*i + j))
			m := build(t, c, uint64(i+j))
			for _, k := range []int{1, 2, (c.Vocab + 1) / 2, c.Vocab} {
				a := api.Ask{Kind: api.Sample, Prompt: []int{1, 0}, Length: 7, Stop: j - 1, Seed: seed, TopK: k, Heat: heat, Beams: -1, Penalty: -1}
				a.Stop = min(a.Stop, c.Vocab-1)
				sameAnswer(t, m, none, a)
			}
		}
	}
}

// 20.2: a Stop of each token, of each kind: the tokens end behind it.
func TestAnswersOfEachStop(t *testing.T) {
	for seed := range uint64(60) {
		c := configOf(seed)
		m, d := build(t, c, seed), adapterOf(t, c, seed)
		for _, kind := range []int{api.Greedy, api.Sample, api.Beam} {
			a := asking(askOf(kind, c.Vocab, seed), func(a *api.Ask) { a.Prompt, a.Length = a.Prompt[:1], 7 })
			for stop := -1; stop < c.Vocab; stop++ {
				a.Stop = stop
				sameAnswer(t, m, d, a)
			}
		}
	}
}

// tries is the beams with which Answer ends; the best of them alone is seen from outside.
func tries(t *testing.T, m api.Model, d api.Adapter, a api.Ask) []beam.Beam {
	t.Helper()
	l, e := request{model: m, adapter: d, ask: a}.tries()
	if e != api.OK {
		t.Errorf("the tries of %+v: error %d", a, e)
	}
	return l
}

func checkTries(t *testing.T, m api.Model, d api.Adapter, a api.Ask, want []beam.Beam) {
	t.Helper()
	same := func(a, b beam.Beam) bool {
		return slices.Equal(a.Tokens, b.Tokens) && a.Score == b.Score && a.Done == b.Done
	}
	if l := tries(t, m, d, a); !slices.EqualFunc(l, want, same) {
		t.Errorf("the tries of %+v: %v, not %v", a, l, want)
	}
}

// 20.2: the tries by hand, where nothing is lost.
func TestTriesByHand(t *testing.T) {
	m := blank(t, api.Config{Dim: 2, Heads: 1, Layers: 1, Vocab: 2, Hidden: 1})
	ended := func(lists ...[]int) []beam.Beam {
		var l []beam.Beam
		for _, tokens := range lists {
			l = append(l, beam.Beam{Tokens: tokens, Done: true})
		}
		return l
	}
	a := api.Ask{Kind: api.Beam, Prompt: []int{1, 1}, Length: 2, Stop: -1}
	for _, c := range []struct {
		beams, length, stop int
		want                []beam.Beam
	}{
		{1, 1, -1, ended([]int{0})},
		{2, 1, -1, ended([]int{0}, []int{1})},
		{4, 1, -1, ended([]int{0}, []int{1})},
		{1, 2, -1, ended([]int{0, 0})},
		{2, 2, -1, ended([]int{0, 0}, []int{0, 1})},
		{3, 2, -1, ended([]int{0, 0}, []int{0, 1}, []int{1, 0})},
		{4, 2, -1, ended([]int{0, 0}, []int{0, 1}, []int{1, 0}, []int{1, 1})},
		{1, 2, 0, ended([]int{0})},
		{2, 2, 0, ended([]int{0}, []int{1, 0})},
		{4, 2, 0, ended([]int{0}, []int{1, 0}, []int{1, 1})},
		{3, 3, 0, ended([]int{0}, []int{1, 0}, []int{1, 1, 0})},
		{3, 3, 1, ended([]int{0, 0, 0}, []int{0, 0, 1}, []int{0, 1})},
	} {
		a.Beams, a.Length, a.Stop = c.beams, c.length, c.stop
		checkTries(t, m, none, a, c.want)
	}
}

// 20.2: the tries of the ring by hand: the second best token loses half of the best one's score.
func TestTriesOfRing(t *testing.T) {
	m := ring(t)
	out, _ := norm.Rms([]int64{65536, 0, 0, 0, 0, 0, 0, 0}, slices.Repeat([]int8{64}, 8))
	half := (out[0]+1)/2 - out[0]
	a := api.Ask{Kind: api.Beam, Prompt: []int{0}, Length: 3, Stop: -1, Beams: 3}
	checkTries(t, m, none, a, []beam.Beam{{Tokens: []int{1, 2, 3}, Done: true}, {Tokens: []int{1, 2, 4}, Score: half, Done: true}, {Tokens: []int{1, 3, 4}, Score: half, Done: true}})
	a.Stop = 2
	// Behind one step 2 is done with a loss, behind two steps 1 2 without one.
	checkTries(t, m, none, a, []beam.Beam{{Tokens: []int{1, 2}, Done: true}, {Tokens: []int{1, 3, 4}, Score: half, Done: true}, {Tokens: []int{2}, Score: half, Done: true}})
}

// 20.2: the tries of models of all kinds, held against the chapter's steps: all beams that are left, not the best one alone.
func TestTries(t *testing.T) {
	for seed := range uint64(300) {
		c := configOf(seed)
		m, d := build(t, c, seed), adapterOf(t, c, seed)
		a := askOf(api.Beam, c.Vocab, seed)
		a.Prompt, a.Length = a.Prompt[:1], min(a.Length, 6)
		for beams := 1; beams <= api.MaxBeams; beams++ {
			a.Beams = beams
			checkTries(t, m, d, a, wantTries(t, m, d, a))
		}
	}
}

// 20.2: the best try by hand, also where it is not the first: the penalty divides a score by its length.
func TestBest(t *testing.T) {
	long, short := []int{1, 2, 3, 4}, []int{5}
	for _, c := range []struct {
		tries   []beam.Beam
		penalty int
		want    []int
	}{
		{[]beam.Beam{{Tokens: long}, {Tokens: short}}, 16, long},
		{[]beam.Beam{{Tokens: short}, {Tokens: long}}, 16, short},
		{[]beam.Beam{{Tokens: short, Score: -2000}, {Tokens: long, Score: -3000}}, 0, short},
		// One sixteenth for each token: 2000 divided by 17 is less than 3000 divided by 20.
		{[]beam.Beam{{Tokens: short, Score: -2000}, {Tokens: long, Score: -3000}}, 1, short},
		// 16 sixteenths for each: 2000 divided by 2 is more than 3000 divided by 5.
		{[]beam.Beam{{Tokens: short, Score: -2000}, {Tokens: long, Score: -3000}}, 16, long},
		{[]beam.Beam{{Tokens: short, Score: -2000}, {Tokens: long, Score: -3000}}, 64, long},
		{[]beam.Beam{{Tokens: long, Score: -3000}, {Tokens: short, Score: -2000}}, 0, short},
	} {
		r := request{ask: api.Ask{Penalty: c.penalty}}
		if tokens := r.best(c.tries); !slices.Equal(tokens, c.want) {
			t.Errorf("the best of %v with the penalty %d: %v, not %v", c.tries, c.penalty, tokens, c.want)
		}
	}
}

// 20.2: beams of each number with penalties from 0 to 64.
func TestPenalties(t *testing.T) {
	for penalty := range 65 {
		seed := uint64(penalty)
		c := configOf(seed)
		m, d := build(t, c, seed), adapterOf(t, c, seed)
		for beams := 1; beams <= api.MaxBeams; beams++ {
			sameAnswer(t, m, d, api.Ask{Kind: api.Beam, Prompt: []int{0, 1}, Length: 4, Stop: penalty%3 - 1, Beams: beams, Penalty: penalty})
		}
	}
}
