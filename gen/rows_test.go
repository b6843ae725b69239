package gen

import (
	"math"
	"slices"
	"testing"

	"aviary/api"
)

func checkRows(t *testing.T, a api.Ask, rows, sequences, cost int) {
	t.Helper()
	if r, s := Rows(a); r != rows || s != sequences || Cost(a) != cost {
		t.Errorf("Rows(%+v): %d, %d, Cost %d, not %d, %d, %d", a, r, s, Cost(a), rows, sequences, cost)
	}
}

// 20.3: answers that are reckoned by hand.
func TestRowsByHand(t *testing.T) {
	prompt := []int{1, 0, 1, 1, 0}
	checkRows(t, api.Ask{Kind: api.Greedy, Prompt: prompt, Length: 4}, 9, 1, 9)
	checkRows(t, api.Ask{Kind: api.Sample, Prompt: prompt, Length: 4, TopK: 2}, 9, 1, 9)
	checkRows(t, api.Ask{Kind: api.Beam, Prompt: prompt, Length: 4, Beams: 3}, 9, 3, 27)
	checkRows(t, api.Ask{Kind: api.Beam, Prompt: prompt, Length: 4, Beams: 1}, 9, 1, 9)
	checkRows(t, api.Ask{Kind: api.Embed, Prompt: prompt}, 5, 1, 5)
	checkRows(t, api.Ask{Kind: api.Beam, Prompt: prompt[:1], Length: 23, Beams: 4}, 24, 4, 96)
	checkRows(t, api.Ask{Kind: api.Embed, Prompt: slices.Repeat([]int{0}, 24)}, 24, 1, 24)
}

// 20.3: all prompts, lengths and beams that are right; what is of other kinds does not matter.
func TestRowsOfAll(t *testing.T) {
	for count := 1; count <= 24; count++ {
		prompt := slices.Repeat([]int{1}, count)
		for _, other := range []int{least, -3, 0, 1, 2, 7, most} {
			checkRows(t, api.Ask{Kind: api.Embed, Prompt: prompt, Length: other, Stop: other, TopK: other, Beams: other, Penalty: other, Heat: math.NaN()}, count, 1, count)
		}
		for length := 1; length <= 24-count; length++ {
			for _, other := range []int{least, -3, 0, 1, 2, 7, most} {
				checkRows(t, api.Ask{Kind: api.Greedy, Prompt: prompt, Length: length, Stop: -1, TopK: other, Beams: other, Penalty: other}, count+length, 1, count+length)
				checkRows(t, api.Ask{Kind: api.Sample, Prompt: prompt, Length: length, Stop: 1, TopK: 2, Heat: 1, Beams: other, Penalty: other}, count+length, 1, count+length)
				for beams := 1; beams <= api.MaxBeams; beams++ {
					checkRows(t, api.Ask{Kind: api.Beam, Prompt: prompt, Length: length, Stop: 0, TopK: other, Beams: beams, Penalty: 3}, count+length, beams, (count+length)*beams)
				}
			}
		}
	}
}

// 20.3: an answer takes no more rows than that: those of the prompt, and of all tokens.
func TestRowsHoldAnswers(t *testing.T) {
	for seed := range uint64(200) {
		c := configOf(seed)
		a := askOf(kinds()[seed%4], c.Vocab, seed)
		tokens, _, e := Answer(build(t, c, seed), none, a)
		if rows, _ := Rows(a); len(a.Prompt)+len(tokens) > rows || rows > api.MaxLen || e != api.OK {
			t.Errorf("%+v: %d rows, tokens %v, error %d", a, rows, tokens, e)
		}
	}
}
