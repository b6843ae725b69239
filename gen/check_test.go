package gen

import (
	"math"
	"slices"
	"testing"

	"aviary/api"
	"aviary/ckpt"
)

// sizes is configurations with each vocabulary.
func sizes() []api.Config {
	var list []api.Config
	for vocab := 2; vocab <= api.MaxVocab; vocab++ {
		list = append(list, api.Config{Dim: 2, Heads: 1, Layers: 1, Vocab: vocab, Hidden: 1})
	}
	return list
}

// plain is an ask of a kind that is right for each configuration, with all fields at ordinary values.
func plain(kind int) api.Ask {
	return api.Ask{Kind: kind, Prompt: []int{1, 0}, Length: 3, Stop: -1, Seed: 9, TopK: 2, Heat: 0.5, Beams: 2, Penalty: 16}
}

// lengthy is an ask that is too long, and right otherwise.
func lengthy(kind int) api.Ask {
	a := plain(kind)
	a.Prompt = slices.Repeat([]int{1, 0}, 13)
	return a
}

// lengthError is the outcome of a right ask that is too long, or is not.
func lengthError(long bool) api.Errno {
	if long {
		return api.TooLong
	}
	return api.OK
}

// checkCheck holds Check against an outcome.
func checkCheck(t *testing.T, c api.Config, a api.Ask, want api.Errno) {
	t.Helper()
	if e := Check(c, a); e != want {
		t.Errorf("Check(%+v, %+v): %d, not %d", c, a, e, want)
	}
}

// wantRight is whether an ask is right for a right configuration, by the chapter's words.
func wantRight(c api.Config, a api.Ask) bool {
	right := a.Kind == 1 || a.Kind == 2 || a.Kind == 3 || a.Kind == 4
	right = right && len(a.Prompt) != 0
	for _, token := range a.Prompt {
		right = right && token >= 0 && token <= c.Vocab-1
	}
	if a.Kind != 4 {
		right = right && a.Length >= 1 && a.Stop < c.Vocab
	}
	if a.Kind == 2 {
		right = right && a.TopK >= 1 && a.TopK <= c.Vocab && !math.IsNaN(a.Heat)
	}
	if a.Kind == 3 {
		right = right && a.Beams >= 1 && a.Beams <= 4 && a.Penalty >= 0 && a.Penalty <= 64
	}
	return right
}

// wantCheck is Check's outcome, by the chapter's words.
func wantCheck(c api.Config, a api.Ask) api.Errno {
	if !ckpt.Config(c) || !wantRight(c, a) {
		return api.Malformed
	}
	tokens := uint64(len(a.Prompt))
	if a.Kind != 4 {
		// Length is at least 1 here, so that the sum of both is within 64 bits without a sign.
		tokens += uint64(a.Length)
	}
	if tokens > 24 {
		return api.TooLong
	}
	return api.OK
}

// 20.1: a right ask of each kind is OK, for each vocabulary.
func TestCheckRight(t *testing.T) {
	for _, c := range sizes() {
		for _, kind := range kinds() {
			checkCheck(t, c, plain(kind), api.OK)
			checkCheck(t, c, lengthy(kind), api.TooLong)
		}
	}
	for seed := range uint64(3000) {
		c := configOf(seed)
		checkCheck(t, c, askOf(kinds()[seed%4], c.Vocab, seed), api.OK)
	}
}

// 20.1: of a configuration that is not right all is Malformed, also what is too long.
func TestCheckWrongConfig(t *testing.T) {
	for _, c := range wrongConfigs() {
		for _, kind := range append(kinds(), 0, 5) {
			checkCheck(t, c, plain(kind), api.Malformed)
			checkCheck(t, c, lengthy(kind), api.Malformed)
			checkCheck(t, c, api.Ask{Kind: kind, Prompt: []int{0}, Length: most, Stop: -1, TopK: 1, Beams: 1}, api.Malformed)
			checkCheck(t, c, api.Ask{Kind: kind}, api.Malformed)
		}
	}
}

// 20.1: a kind that is none is Malformed, also of what is too long.
func TestCheckKind(t *testing.T) {
	for _, c := range sizes() {
		for _, kind := range []int{least, -1 << 32, -4, -3, -2, -1, 0, 5, 6, 7, 8, 257, 1 << 32, 1<<32 + 1, 1<<32 + 4, most} {
			checkCheck(t, c, plain(kind), api.Malformed)
			checkCheck(t, c, lengthy(kind), api.Malformed)
		}
	}
}

// 20.1: an empty prompt is Malformed, whatever the length.
func TestCheckNoPrompt(t *testing.T) {
	for _, kind := range kinds() {
		for _, prompt := range [][]int{nil, {}, []int{1, 0, 1}[:0]} {
			for _, length := range []int{1, 3, 24, 25, most} {
				a := plain(kind)
				a.Prompt, a.Length = prompt, length
				checkCheck(t, sizes()[3], a, api.Malformed)
			}
		}
	}
}

// 20.1: a prompt has tokens from 0 to Vocab - 1 alone, at each place.
func TestCheckTokens(t *testing.T) {
	for _, c := range sizes() {
		for _, kind := range kinds() {
			for _, count := range []int{1, 2, 3, 21, 22, 24, 25, 60} {
				long := count > 24 || kind != api.Embed && count > 21
				for _, place := range []int{0, count / 2, count - 1} {
					a := plain(kind)
					a.Prompt = slices.Repeat([]int{1}, count)
					for _, token := range []int{least, -1 << 32, -2, -1, c.Vocab, c.Vocab + 1, 16, 1 << 32, 1<<32 + 1, most} {
						a.Prompt[place] = token
						checkCheck(t, c, a, api.Malformed)
					}
					for _, token := range []int{0, c.Vocab - 1} {
						a.Prompt[place] = token
						checkCheck(t, c, a, lengthError(long))
					}
				}
			}
		}
	}
}

// 20.1: Length is at least 1, and as much as the prompt leaves of 24 tokens; of Embed it does not matter.
func TestCheckLength(t *testing.T) {
	c := sizes()[2]
	for count := 1; count <= 26; count++ {
		left := 24 - count
		for _, kind := range kinds() {
			a := plain(kind)
			a.Prompt = slices.Repeat([]int{1}, count)
			check := func(length int, want api.Errno) {
				t.Helper()
				a.Length = length
				if kind == api.Embed {
					want = lengthError(count > 24)
				}
				checkCheck(t, c, a, want)
			}
			for _, length := range []int{least, least + 1, -1 << 32, -24, -2, -1, 0} {
				check(length, api.Malformed)
			}
			for length := 1; length <= left; length++ {
				check(length, api.OK)
			}
			for _, more := range []int{1, 2, 24, 1 << 31, 1 << 32, most - 24} {
				check(max(left, 0)+more, api.TooLong)
			}
			for _, length := range []int{25, 1 << 31, 1 << 32, most - 24, most - 23, most - 1, most} {
				check(length, api.TooLong)
			}
		}
	}
}

// 20.1: Stop is below Vocab, also far below 0; of Embed it does not matter.
func TestCheckStop(t *testing.T) {
	for _, c := range sizes() {
		for _, kind := range kinds() {
			a, long := plain(kind), lengthy(kind)
			for _, stop := range []int{least, -1 << 32, -17, -2, -1, 0, 1, c.Vocab - 1} {
				a.Stop, long.Stop = stop, stop
				checkCheck(t, c, a, api.OK)
				checkCheck(t, c, long, api.TooLong)
			}
			for _, stop := range []int{c.Vocab, c.Vocab + 1, 16, 17, 255, 1 << 32, most} {
				a.Stop, long.Stop = stop, stop
				if kind == api.Embed {
					checkCheck(t, c, a, api.OK)
					checkCheck(t, c, long, api.TooLong)
					continue
				}
				checkCheck(t, c, a, api.Malformed)
				checkCheck(t, c, long, api.Malformed)
			}
		}
	}
}

// checkField holds values of a field against one kind, where some are wrong, and against the others, where it does not matter.
func checkField[V any](t *testing.T, c api.Config, kind int, right, wrong []V, set func(a *api.Ask, value V)) {
	t.Helper()
	for _, other := range kinds() {
		for i, value := range append(slices.Clone(right), wrong...) {
			a, long := plain(other), lengthy(other)
			set(&a, value)
			set(&long, value)
			if other == kind && i >= len(right) {
				checkCheck(t, c, a, api.Malformed)
				checkCheck(t, c, long, api.Malformed)
				continue
			}
			checkCheck(t, c, a, api.OK)
			checkCheck(t, c, long, api.TooLong)
		}
	}
}

// 20.1: of Sample TopK is from 1 to Vocab; of other kinds it does not matter.
func TestCheckTopK(t *testing.T) {
	for _, c := range sizes() {
		right := []int{1, 2, c.Vocab - 1, c.Vocab}
		wrong := []int{least, -1 << 32, -2, -1, 0, c.Vocab + 1, 17, 1 << 32, 1<<32 + 1, most}
		checkField(t, c, api.Sample, right, wrong, func(a *api.Ask, k int) { a.TopK = k })
	}
}

// 20.1: of Sample Heat is a number, of any sign and size; of other kinds it does not matter.
func TestCheckHeat(t *testing.T) {
	wrong := []float64{math.NaN(), math.Copysign(math.NaN(), -1), math.Float64frombits(0x7FF0000000000001), math.Float64frombits(0xFFF8000000000000), math.Float64frombits(whole)}
	for _, c := range sizes() {
		checkField(t, c, api.Sample, heats(), wrong, func(a *api.Ask, heat float64) { a.Heat = heat })
	}
}

// 20.1: of Beam Beams is from 1 to MaxBeams; of other kinds it does not matter.
func TestCheckBeams(t *testing.T) {
	for _, c := range sizes() {
		wrong := []int{least, -1 << 32, -2, -1, 0, 5, 6, 16, 1 << 32, 1<<32 + 1, most}
		checkField(t, c, api.Beam, []int{1, 2, 3, 4}, wrong, func(a *api.Ask, beams int) { a.Beams = beams })
	}
}

// 20.1: of Beam Penalty is from 0 to 64; of other kinds it does not matter.
func TestCheckPenalty(t *testing.T) {
	for _, c := range sizes() {
		wrong := []int{least, -1 << 32, -64, -2, -1, 65, 66, 128, 1 << 32, 1<<32 + 1, most}
		checkField(t, c, api.Beam, []int{0, 1, 16, 63, 64}, wrong, func(a *api.Ask, penalty int) { a.Penalty = penalty })
	}
}

// 20.1: Seed is any number, of each kind.
func TestCheckSeed(t *testing.T) {
	seeds := []uint64{0, 1, 1 << 31, 1 << 63, whole}
	checkField(t, sizes()[1], api.Sample, seeds, nil, func(a *api.Ask, seed uint64) { a.Seed = seed })
}

// 20.1: fields with values of all sizes, in all ways together, held against the chapter's words.
func TestCheckTogether(t *testing.T) {
	prompts := [][]int{nil, {0}, {3, 1}, {4}, {1, -1, 1}, slices.Repeat([]int{2}, 23), slices.Repeat([]int{2}, 24), slices.Repeat([]int{2}, 25)}
	seen := map[api.Errno]int{}
	for _, c := range []api.Config{sizes()[2], sizes()[0], {Dim: 3, Heads: 1, Layers: 1, Vocab: 4, Hidden: 1}} {
		for kind := -1; kind <= 5; kind++ {
			for _, prompt := range prompts {
				for _, length := range []int{least, 0, 1, 2, 22, 24, most} {
					for _, stop := range []int{least, -1, 0, c.Vocab - 1, c.Vocab, most} {
						for _, k := range []int{least, 0, 1, c.Vocab, c.Vocab + 1} {
							for _, heat := range []float64{-1, 1, math.NaN()} {
								for _, beams := range []int{0, 1, 4, 5} {
									for _, penalty := range []int{-1, 0, 64, 65} {
										a := api.Ask{Kind: kind, Prompt: prompt, Length: length, Stop: stop, TopK: k, Heat: heat, Beams: beams, Penalty: penalty}
										want := wantCheck(c, a)
										checkCheck(t, c, a, want)
										seen[want]++
									}
								}
							}
						}
					}
				}
			}
		}
	}
	for _, e := range []api.Errno{api.OK, api.Malformed, api.TooLong} {
		if seen[e] < 1000 {
			t.Errorf("only %d asks with the outcome %d", seen[e], e)
		}
	}
}

// 20.1, R6: very long prompts are refused, by a wrong token at their end ahead of their length.
func TestCheckManyTokens(t *testing.T) {
	for _, kind := range kinds() {
		a := plain(kind)
		a.Prompt = make([]int, 1<<20)
		checkCheck(t, sizes()[0], a, api.TooLong)
		a.Length = most
		checkCheck(t, sizes()[0], a, api.TooLong)
		a.Prompt[len(a.Prompt)-1] = 2
		checkCheck(t, sizes()[0], a, api.Malformed)
	}
}
