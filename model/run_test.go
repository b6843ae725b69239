package model

import (
	"math"
	"slices"
	"testing"

	"aviary/api"
	"aviary/attn"
	"aviary/ckpt"
	"aviary/vec"
)

// 17.2: Scores are Mat of Out, of what comes out and of numbers of all sizes.
func TestScores(t *testing.T) {
	for seed := range uint64(1500) {
		c := configOf(seed)
		m := build(t, c, seed)
		_, out, e := Step(m, none, nil, 0, 1)
		if e != api.OK {
			t.Fatalf("error %d", e)
		}
		for _, x := range [][]int64{out, mixed(c.Dim, seed), slices.Repeat([]int64{most}, c.Dim), slices.Repeat([]int64{least}, c.Dim)} {
			want, e := vec.Mat(m.Out, c.Vocab, x)
			if e != api.OK || len(want) != c.Vocab {
				t.Fatalf("%d scores, error %d", len(want), e)
			}
			if s, e := Scores(m, x); !slices.Equal(s, want) || e != api.OK {
				t.Errorf("Scores of %+v and %v: %v, error %d, not %v", c, x, s, e, want)
			}
		}
	}
	m := tiny(t, 0)
	m.Out = []int8{64, 0, -32, 64}
	if s, e := Scores(m, []int64{6, 7}); !slices.Equal(s, []int64{6, 4}) || e != api.OK {
		t.Errorf("%v, error %d", s, e)
	}
}

// 17.2: Scores has ckpt.Check's error ahead of Mat's; Mat's of an x that is empty, too short or too long.
func TestScoresRefuses(t *testing.T) {
	eachWrongModel(t, func(m api.Model, want api.Errno) {
		for count := range 10 {
			refuseScores(t, m, make([]int64, count), want)
		}
		refuseScores(t, m, nil, want)
	})
	for seed := range uint64(100) {
		c := configOf(seed)
		m := build(t, c, seed)
		for _, count := range []int{0, 1, 2, 3, 4, 6, 8, c.Dim - 1, c.Dim + 1, 2 * c.Dim, c.Vocab, c.Vocab * c.Dim, 5000} {
			if count != c.Dim {
				refuseScores(t, m, make([]int64, count), api.ErrShape)
			}
		}
		refuseScores(t, m, nil, api.ErrShape)
	}
}

// 17.2: Run is Step at each place, behind the rows that are seen: of no, one, some, and as many tokens as there may be.
func TestRun(t *testing.T) {
	for seed := range uint64(400) {
		c := configOf(seed)
		m, a := build(t, c, seed), adapterOf(t, c, seed)
		for _, count := range []int{0, 1, 2, 5, 23, 24} {
			tokens := tokensOf(count, c.Vocab, seed)
			sameRun(t, m, a, tokens)
			rows, outs, e := Run(m, a, tokens)
			if len(rows) != count || len(outs) != count || e != api.OK {
				t.Fatalf("%d rows, %d more, error %d", len(rows), len(outs), e)
			}
			for place, token := range tokens {
				checkStep(t, m, a, rows[attn.Visible(place, c.Window):place], place, token, rows[place], outs[place])
			}
		}
	}
}

// 17.2: Run, reckoned by hand: with keys of 0 what comes of looking is the mean of the values that are seen.
func TestRunByHand(t *testing.T) {
	m := tiny(t, 0)
	m.Layers[0].V, m.Layers[0].O = unit(), unit()
	one, zero := []int64{0, 0, 65535, 65535}, []int64{0, 0, 0, 0}
	// Of 65535 a half is 32768, a quarter 16384, each rounded.
	rows := [][]int64{one, zero, zero, zero}
	outs := [][]int64{rms(65536+65535, 65536+65535), rms(32768, 32768), rms(21845, 21845), rms(16384, 16384)}
	checkRun(t, m, none, []int{1, 0, 0, 0}, rows, outs)
	m.Config.Window = 2
	outs[2], outs[3] = rms(0, 0), rms(0, 0)
	checkRun(t, m, none, []int{1, 0, 0, 0}, rows, outs)
	m.Config.Window = 1
	outs[1] = rms(0, 0)
	checkRun(t, m, none, []int{1, 0, 0, 0}, rows, outs)
	checkRun(t, m, none, []int{0, 1}, [][]int64{zero, one}, [][]int64{outs[3], outs[0]})
}

// 17.2: of more tokens than there may be the answer is ErrRange, also of a great many.
func TestRunTooLong(t *testing.T) {
	for seed := range uint64(40) {
		c := configOf(seed)
		m, a := build(t, c, seed), adapterOf(t, c, seed)
		for _, count := range []int{25, 26, 48, 100000} {
			refuseRun(t, m, a, tokensOf(count, c.Vocab, seed), api.ErrRange)
		}
	}
}

// 17.2: a token that is out of range is ErrRange, at whichever place it stands.
func TestRunRange(t *testing.T) {
	for seed := range uint64(40) {
		c := configOf(seed)
		m, a := build(t, c, seed), adapterOf(t, c, seed)
		for _, count := range []int{1, 2, 3, 12, 24} {
			for place := range count {
				for _, token := range []int{-1, c.Vocab, math.MinInt, math.MaxInt} {
					tokens := tokensOf(count, c.Vocab, seed)
					tokens[place] = token
					refuseRun(t, m, a, tokens, api.ErrRange)
				}
			}
		}
		for _, token := range []int{0, c.Vocab - 1} {
			sameRun(t, m, a, []int{token, token, token})
		}
	}
}

// 17.2: Run has ckpt.Check's error, then graft.Check's, also of no tokens, and ahead of the tokens' own.
func TestRunRefuses(t *testing.T) {
	lists := [][]int{nil, {}, {0}, {1, 0, 1}, {-1}, {1, 99}, make([]int, 24), make([]int, 25)}
	eachWrongModel(t, func(m api.Model, want api.Errno) {
		for _, tokens := range lists {
			for _, a := range []api.Adapter{none, {Rank: 5}, {Rank: 1}, {Rank: -1, Shift: 9}} {
				refuseRun(t, m, a, tokens, want)
			}
		}
	})
	for seed := range uint64(16) {
		c := configOf(seed)
		m := build(t, c, seed)
		eachWrongAdapter(t, c, func(a api.Adapter, want api.Errno) {
			for _, tokens := range lists {
				refuseRun(t, m, a, tokens, want)
			}
		})
		for _, tokens := range lists[:2] {
			checkRun(t, m, none, tokens, nil, nil)
			checkRun(t, m, buildAdapter(t, c, 2, 3, 4), tokens, nil, nil)
			checkRun(t, m, api.Adapter{Shift: -5, Layers: make([]api.Graft, 7)}, tokens, nil, nil)
		}
	}
}

// 17.3: Run of more tokens begins with Run of fewer.
func TestRunBegins(t *testing.T) {
	for seed := range uint64(150) {
		c := configOf(seed)
		m, a := build(t, c, seed), adapterOf(t, c, seed)
		tokens := tokensOf(24, c.Vocab, seed)
		rows, outs, e := Run(m, a, tokens)
		if e != api.OK {
			t.Fatalf("error %d", e)
		}
		for count := range 24 {
			checkRun(t, m, a, tokens[:count], rows[:count], outs[:count])
			// Other tokens behind them change nothing either.
			other := append(slices.Clone(tokens[:count]), tokensOf(24-count, c.Vocab, seed+500)...)
			r, x, e := Run(m, a, other)
			if e != api.OK || !equalLists(r[:count], rows[:count]) || !equalLists(x[:count], outs[:count]) {
				t.Errorf("%+v, %v: the first %d are not those of %v", c, other, count, tokens)
			}
		}
	}
}

// reached is the first place on which what comes out at a place hangs: each layer sees what the layers below it have seen.
func reached(c api.Config, place int) int {
	for range c.Layers {
		place = attn.Visible(place, c.Window)
	}
	return place
}

// 17.3: tokens ahead of all that is seen change nothing; with a window of one each place stands alone.
func TestRunForgets(t *testing.T) {
	changed := 0
	for seed := range uint64(240) {
		c := configOf(seed)
		c.Window = int(seed%5) + 1
		m, a := build(t, c, seed), adapterOf(t, c, seed)
		tokens := tokensOf(24, c.Vocab, seed)
		rows, outs, _ := Run(m, a, tokens)
		for place := range 24 {
			first := reached(c, place)
			other := slices.Clone(tokens)
			for i := range first {
				other[i] = (other[i] + 1) % c.Vocab
			}
			r, x, e := Run(m, a, other)
			if e != api.OK || !slices.Equal(r[place], rows[place]) || !slices.Equal(x[place], outs[place]) {
				t.Errorf("%+v, place %d: tokens ahead of %d changed %v to %v, %v to %v, error %d", c, place, first, rows[place], r[place], outs[place], x[place], e)
			}
			// That which is seen is not forgotten.
			other[first] = (other[first] + 1) % c.Vocab
			if _, x, _ := Run(m, a, other); !slices.Equal(x[place], outs[place]) {
				changed++
			}
		}
	}
	if changed < 1000 {
		t.Errorf("of the first tokens that are seen %d changed what comes out", changed)
	}
}

// 17.3: rows ahead of what is seen change nothing: behind others that end in the same rows a step is the same.
func TestStepForgets(t *testing.T) {
	for seed := range uint64(200) {
		c := configOf(seed)
		c.Window = int(seed%7) + 1
		m, a := build(t, c, seed), adapterOf(t, c, seed)
		for place := c.Window; place < 24; place++ {
			all, other := rowsOf(place, Width(c), seed), rowsOf(place, Width(c), seed+300)
			first := attn.Visible(place, c.Window)
			copy(other[first:], all[first:])
			row, out, e := Step(m, a, all[first:], place, 1)
			if e != api.OK {
				t.Fatalf("error %d", e)
			}
			checkStep(t, m, a, other[first:], place, 1, row, out)
		}
	}
}

// 17.3: an adapter whose QB and VB are 0 changes nothing, whatever its QA, VA, rank and shift.
func TestNoughtAdapter(t *testing.T) {
	for seed := range uint64(400) {
		c := configOf(seed)
		m := build(t, c, seed)
		a := buildAdapter(t, c, int(seed%4)+1, int(seed/4%9), seed+50)
		for i := range a.Layers {
			clear(a.Layers[i].QB)
			clear(a.Layers[i].VB)
		}
		for i, place := range places() {
			past := rowsOf(seenRows(c, place), Width(c), seed+uint64(i))
			row, out, e := Step(m, none, past, place, 1)
			if e != api.OK {
				t.Fatalf("error %d", e)
			}
			checkStep(t, m, a, past, place, 1, row, out)
		}
		tokens := tokensOf(12, c.Vocab, seed)
		rows, outs, _ := Run(m, none, tokens)
		checkRun(t, m, a, tokens, rows, outs)
	}
}

// R1: no call ends in a panic: models of lists of any length, with numbers of any size beside them.
func TestNoPanic(t *testing.T) {
	odd := []int{math.MinInt, -1 << 32, -1, 0, 1, 2, 3, 4, 8, 16, 17, 23, 24, 1 << 32, 1 << 62, math.MaxInt}
	pick := func(seed uint64) int { return odd[uint64(mixed(1, seed)[0])%uint64(len(odd))] }
	answered := 0
	for seed := range uint64(20000) {
		c := configOf(seed)
		m, a := build(t, c, seed), adapterOf(t, c, seed)
		past := rowsOf(int(seed%4), Width(c), seed)
		place, token := int(seed/4%4), int(seed/16%3)
		switch seed % 7 {
		case 0:
			spoilConfig(&m.Config, seed, pick(seed+1))
		case 1:
			spoilModel(&m, seed, pick(seed+2)&15)
		case 2:
			spoilAdapter(&a, seed, pick(seed+3))
		case 3:
			place = pick(seed + 4)
		case 4:
			token = pick(seed + 5)
		case 5:
			past = append(past, make([]int64, pick(seed+6)&31))
		}
		sameStep(t, m, a, past, place, token)
		sameRun(t, m, a, []int{token, 0, place, token}[:seed%5])
		if s, e := Scores(m, mixed(int(seed%9), seed)); e == api.OK && len(s) == m.Config.Vocab {
			answered++
		}
		Width(m.Config)
	}
	if answered < 1000 {
		t.Errorf("%d answers", answered)
	}
	for _, m := range []api.Model{{}, {Layers: make([]api.Layer, 2)}, {Config: configOf(1)}, {Config: configOf(1), Layers: make([]api.Layer, 1)}} {
		sameStep(t, m, none, nil, 0, 0)
		sameStep(t, m, api.Adapter{Rank: 1}, nil, 0, 0)
		sameRun(t, m, none, nil)
		refuseScores(t, m, nil, ckpt.Check(m))
	}
}

// spoilConfig sets one of a configuration's numbers.
func spoilConfig(c *api.Config, seed uint64, n int) {
	*[]*int{&c.Dim, &c.Heads, &c.Layers, &c.Vocab, &c.Hidden, &c.Experts, &c.TopK, &c.Window}[seed/7%8] = n
}

// spoilModel makes one of a model's lists so long.
func spoilModel(m *api.Model, seed uint64, count int) {
	l := &m.Layers[len(m.Layers)-1]
	lists := []*[]int8{&m.Embed, &m.Norm, &m.Out, &l.Norm1, &l.Q, &l.K, &l.V, &l.O, &l.Norm2, &l.Router, &l.Up[0], &l.Down[0]}
	switch n := seed / 7 % 15; n {
	case 12:
		m.Layers = make([]api.Layer, count)
	case 13:
		l.Up = make([][]int8, count)
	case 14:
		l.Down = make([][]int8, count)
	default:
		*lists[n] = make([]int8, count)
	}
}

// spoilAdapter sets one of an adapter's numbers, or makes one of its lists so long.
func spoilAdapter(a *api.Adapter, seed uint64, n int) {
	switch seed / 7 % 4 {
	case 0:
		a.Rank = n
	case 1:
		a.Shift = n
	case 2:
		a.Layers = make([]api.Graft, n&3)
	default:
		if len(a.Layers) > 0 {
			a.Layers[0].VB = make([]int8, n&31)
		}
	}
}

// R1: what is thrown is caught by what it is: an error is answered, nothing is OK, and anything else goes on.
func TestCaught(t *testing.T) {
	for _, e := range []api.Errno{api.ErrShape, api.ErrRange, api.ErrNone, api.OK} {
		if got := caught(e); got != e {
			t.Errorf("%d thrown, %d caught", e, got)
		}
	}
	if e := caught(nil); e != api.OK {
		t.Errorf("nothing thrown, %d caught", e)
	}
	for _, other := range []any{21, "outcome 21", 21.0} {
		func() {
			defer func() {
				if thrown := recover(); thrown != other {
					t.Errorf("%v thrown, %v went on", other, thrown)
				}
			}()
			caught(other)
		}()
	}
}
