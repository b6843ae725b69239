package gen

import (
	"math"
	"slices"
	"testing"

	"aviary/api"
)

// told is an answer's tokens; there is no error.
func told(t *testing.T, m api.Model, d api.Adapter, a api.Ask) []int {
	t.Helper()
	tokens, vector, e := Answer(m, d, a)
	if len(vector) != 0 || len(tokens) == 0 || e != api.OK {
		t.Errorf("Answer of %+v to %+v: %v, %v, error %d", m.Config, a, tokens, vector, e)
	}
	return tokens
}

// 20.4: Sample with TopK 1, whatever the heat and the seed, is Greedy.
func TestSampleOfOne(t *testing.T) {
	for seed := range uint64(150) {
		c := configOf(seed)
		m, d, a := build(t, c, seed), adapterOf(t, c, seed), askOf(api.Greedy, c.Vocab, seed)
		want := told(t, m, d, a)
		a.Kind, a.TopK = api.Sample, 1
		for i, heat := range heats() {
			a.Heat, a.Seed = heat, seed*uint64(i)<<40
			if i%4 == int(seed%4) {
				checkTokens(t, m, d, a, want...)
			}
		}
	}
}

// 20.4: Sample with a Heat that is not above 0, whatever TopK and the seed are, is Greedy; so it is with one so little that it is made 0.
func TestSampleWithoutHeat(t *testing.T) {
	without := []float64{0, math.Copysign(0, -1), -math.SmallestNonzeroFloat64, -1e-9, -0.5, -1, -32768, -1e300, math.Inf(-1), 1e-9, 0.5 / 65536}
	for seed := range uint64(150) {
		c := configOf(seed)
		m, d, a := build(t, c, seed), adapterOf(t, c, seed), askOf(api.Greedy, c.Vocab, seed)
		want := told(t, m, d, a)
		a.Kind = api.Sample
		for i, heat := range without {
			a.Heat, a.TopK, a.Seed = heat, 1+(int(seed)+i)%c.Vocab, seed<<uint(i)
			if i%3 == int(seed%3) {
				checkTokens(t, m, d, a, want...)
			}
		}
	}
}

// 20.4: Beam with one beam, whatever the penalty, is Greedy. With several it is so, too: the best token loses nothing, so that Greedy's tokens stand first all along.
func TestBeamOfOne(t *testing.T) {
	for seed := range uint64(120) {
		c := configOf(seed)
		m, d, a := build(t, c, seed), adapterOf(t, c, seed), askOf(api.Greedy, c.Vocab, seed)
		want := told(t, m, d, a)
		a.Kind = api.Beam
		for i, penalty := range []int{0, 1, 16, 63, 64} {
			a.Beams, a.Penalty = 1, penalty
			checkTokens(t, m, d, a, want...)
			if i == int(seed%5) {
				a.Beams = int(2 + seed%3)
				checkTokens(t, m, d, a, want...)
			}
		}
	}
}

// 20.4: a Stop that does not come changes nothing; one that comes cuts off what is behind it, and changes nothing else.
func TestStopThatDoesNotCome(t *testing.T) {
	came, missing := 0, 0
	for seed := range uint64(75) {
		c := configOf(seed)
		m, d := build(t, c, seed), adapterOf(t, c, seed)
		for _, kind := range []int{api.Greedy, api.Sample, api.Beam} {
			a := asking(askOf(kind, c.Vocab, seed), func(a *api.Ask) { a.Length, a.Stop = min(a.Length, 8), -1 })
			want := told(t, m, d, a)
			if len(want) != a.Length {
				t.Errorf("%+v: %v without a stop", a, want)
			}
			for _, stop := range []int{least, -2} {
				a.Stop = stop
				checkTokens(t, m, d, a, want...)
			}
			for stop := range c.Vocab {
				a.Stop = stop
				if i := slices.Index(want, stop); i >= 0 {
					checkTokens(t, m, d, a, want[:i+1]...)
					came++
					continue
				}
				checkTokens(t, m, d, a, want...)
				missing++
			}
		}
	}
	if came < 300 || missing < 300 {
		t.Errorf("only %d stops that come, %d that do not", came, missing)
	}
}

// 20.4: a greater Length begins with the same tokens.
func TestGreaterLength(t *testing.T) {
	for seed := range uint64(80) {
		c := configOf(seed)
		m, d := build(t, c, seed), adapterOf(t, c, seed)
		for _, kind := range []int{api.Greedy, api.Sample} {
			a := askOf(kind, c.Vocab, seed)
			left := 24 - len(a.Prompt)
			a.Length = left
			longest := told(t, m, d, a)
			for length := 1; length < left; length++ {
				a.Length = length
				checkTokens(t, m, d, a, longest[:min(length, len(longest))]...)
			}
		}
	}
}

// 20.2: what was answered is answered again, whatever was asked meanwhile.
func TestSameAgain(t *testing.T) {
	ask := func() [][]int {
		var lists [][]int
		for seed := range uint64(40) {
			c := configOf(seed)
			m, d := build(t, c, seed), adapterOf(t, c, seed)
			for _, kind := range kinds() {
				tokens, vector, _ := Answer(m, d, asking(askOf(kind, c.Vocab, seed), func(a *api.Ask) { a.Length = min(a.Length, 5) }))
				lists = append(lists, tokens, vector)
			}
		}
		return lists
	}
	if first, again := ask(), ask(); !slices.EqualFunc(first, again, slices.Equal) {
		t.Errorf("first %v, then %v", first, again)
	}
}
