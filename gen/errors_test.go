package gen

import (
	"math"
	"slices"
	"testing"

	"aviary/api"
)

// steady is the configuration of the models here.
func steady() api.Config {
	return api.Config{Dim: 4, Heads: 2, Layers: 2, Vocab: 5, Hidden: 3, Experts: 2, TopK: 1, Window: 3}
}

// modelLists is all lists of a model.
func modelLists(m *api.Model) []*[]int8 {
	lists := []*[]int8{&m.Embed, &m.Norm, &m.Out}
	for i := range m.Layers {
		l := &m.Layers[i]
		lists = append(lists, &l.Norm1, &l.Q, &l.K, &l.V, &l.O, &l.Norm2, &l.Router)
		for j := range l.Up {
			lists = append(lists, &l.Up[j], &l.Down[j])
		}
	}
	return lists
}

// adapterLists is all lists of an adapter.
func adapterLists(d *api.Adapter) []*[]int8 {
	var lists []*[]int8
	for i := range d.Layers {
		g := &d.Layers[i]
		lists = append(lists, &g.QA, &g.QB, &g.VA, &g.VB)
	}
	return lists
}

// unshapely is models that are right but for one list, or one count of lists.
func unshapely(t *testing.T) []api.Model {
	t.Helper()
	var list []api.Model
	whole := build(t, steady(), 1)
	for i := range modelLists(&whole) {
		for _, change := range []func(l []int8) []int8{
			func(l []int8) []int8 { return l[:len(l)-1] },
			func(l []int8) []int8 { return append(l, 0) },
			func(l []int8) []int8 { return nil },
		} {
			m := build(t, steady(), 1)
			one := modelLists(&m)[i]
			*one = change(*one)
			list = append(list, m)
		}
	}
	for _, change := range []func(m *api.Model){
		func(m *api.Model) { m.Layers = nil },
		func(m *api.Model) { m.Layers = m.Layers[:1] },
		func(m *api.Model) { m.Layers = append(m.Layers, m.Layers[0]) },
		func(m *api.Model) { m.Layers[1].Up = m.Layers[1].Up[:1] },
		func(m *api.Model) { m.Layers[0].Down = append(m.Layers[0].Down, m.Layers[0].Down[0]) },
		func(m *api.Model) { m.Layers[0].Up, m.Layers[0].Down = nil, nil },
	} {
		m := build(t, steady(), 1)
		change(&m)
		list = append(list, m)
	}
	return list
}

// outOfRange is models whose configurations are not right, and whose lists may be so too.
func outOfRange(t *testing.T) []api.Model {
	t.Helper()
	var list []api.Model
	for _, c := range wrongConfigs() {
		m := build(t, steady(), 1)
		m.Config = c
		list = append(list, m, api.Model{Config: c})
	}
	return list
}

// graftsOutOfRange is adapters whose rank, or shift, is none.
func graftsOutOfRange(t *testing.T) []api.Adapter {
	t.Helper()
	var list []api.Adapter
	for _, rank := range []int{least, -1 << 32, -4, -1, 5, 6, 1 << 32, 1<<32 + 2, most} {
		list = append(list, api.Adapter{Rank: rank}, api.Adapter{Rank: rank, Layers: buildAdapter(t, steady(), 2, 3, 1).Layers})
	}
	for _, shift := range []int{least, -1 << 32, -1, 9, 64, 1 << 32, most} {
		d := buildAdapter(t, steady(), 2, 3, 1)
		d.Shift = shift
		list = append(list, d, api.Adapter{Rank: 1, Shift: shift})
	}
	return list
}

// graftsUnshapely is adapters that are right but for one list, or for their layers.
func graftsUnshapely(t *testing.T) []api.Adapter {
	t.Helper()
	list := []api.Adapter{{Rank: 2, Shift: 3}, buildAdapter(t, api.Config{Dim: 4, Heads: 2, Layers: 1, Vocab: 5, Hidden: 3}, 2, 3, 1)}
	for rank := 1; rank <= api.MaxRank; rank++ {
		for i := range 8 {
			short, long := buildAdapter(t, steady(), rank, 3, 1), buildAdapter(t, steady(), rank, 3, 1)
			one, other := adapterLists(&short)[i], adapterLists(&long)[i]
			*one, *other = (*one)[1:], append(*other, 0)
			list = append(list, short, long)
		}
	}
	d := buildAdapter(t, steady(), 4, 0, 1)
	d.Layers = append(d.Layers, d.Layers[0])
	return append(list, d)
}

// wrongAsks is asks that are Malformed for that configuration.
func wrongAsks() []api.Ask {
	var list []api.Ask
	add := func(change func(a *api.Ask), of ...int) {
		for _, kind := range of {
			list = append(list, asking(plain(kind), change), asking(lengthy(kind), change))
		}
	}
	add(func(a *api.Ask) { a.Kind = 0 }, 1)
	add(func(a *api.Ask) { a.Kind = 5 }, 1)
	add(func(a *api.Ask) { a.Kind = most }, 1)
	add(func(a *api.Ask) { a.Prompt = nil }, kinds()...)
	add(func(a *api.Ask) { a.Prompt = append(slices.Clone(a.Prompt), 5) }, kinds()...)
	add(func(a *api.Ask) { a.Prompt = append([]int{-1}, a.Prompt...) }, kinds()...)
	add(func(a *api.Ask) { a.Length = 0 }, 1, 2, 3)
	add(func(a *api.Ask) { a.Length = least }, 1, 2, 3)
	add(func(a *api.Ask) { a.Stop = 5 }, 1, 2, 3)
	add(func(a *api.Ask) { a.TopK = 0 }, 2)
	add(func(a *api.Ask) { a.TopK = 6 }, 2)
	add(func(a *api.Ask) { a.Heat = math.NaN() }, 2)
	add(func(a *api.Ask) { a.Beams = 0 }, 3)
	add(func(a *api.Ask) { a.Beams = 5 }, 3)
	add(func(a *api.Ask) { a.Penalty = -1 }, 3)
	add(func(a *api.Ask) { a.Penalty = 65 }, 3)
	return list
}

// longAsks is asks that are too long, and right otherwise.
func longAsks() []api.Ask {
	list := []api.Ask{lengthy(api.Embed)}
	for _, kind := range []int{api.Greedy, api.Sample, api.Beam} {
		for _, length := range []int{23, 24, 1 << 32, most} {
			list = append(list, asking(plain(kind), func(a *api.Ask) { a.Length = length }))
		}
		list = append(list, lengthy(kind), asking(plain(kind), func(a *api.Ask) { a.Prompt, a.Length = make([]int, 24), 1 }))
	}
	return list
}

// someAsks is asks of all outcomes.
func someAsks() []api.Ask {
	list := slices.Concat(wrongAsks()[:6], longAsks()[:3])
	for _, kind := range kinds() {
		list = append(list, plain(kind))
	}
	return list
}

// 20.2: the model's error comes first, whatever is wrong beside it.
func TestModelsRefused(t *testing.T) {
	adapters := slices.Concat([]api.Adapter{none, buildAdapter(t, steady(), 2, 3, 1)}, graftsOutOfRange(t)[:3], graftsUnshapely(t)[:3])
	for _, d := range adapters {
		for _, a := range someAsks() {
			for _, m := range outOfRange(t) {
				refuse(t, m, d, a, api.ErrRange)
			}
			for _, m := range unshapely(t) {
				refuse(t, m, d, a, api.ErrShape)
			}
		}
	}
}

// 20.2: the adapter's error comes next, ahead of the ask's.
func TestAdaptersRefused(t *testing.T) {
	m := build(t, steady(), 1)
	for _, a := range someAsks() {
		for _, d := range graftsOutOfRange(t) {
			refuse(t, m, d, a, api.ErrRange)
		}
		for _, d := range graftsUnshapely(t) {
			refuse(t, m, d, a, api.ErrShape)
		}
	}
}

// 20.2: the ask's error comes last, with an adapter and without; of one of the rank 0 nothing is asked.
func TestAsksRefused(t *testing.T) {
	m := build(t, steady(), 1)
	adapters := []api.Adapter{none, {Shift: -1}, {Shift: 99, Layers: make([]api.Graft, 7)}}
	for rank := 1; rank <= api.MaxRank; rank++ {
		adapters = append(adapters, buildAdapter(t, steady(), rank, 2*rank, 1))
	}
	for _, d := range adapters {
		for _, a := range wrongAsks() {
			refuse(t, m, d, a, api.Malformed)
		}
		for _, a := range longAsks() {
			refuse(t, m, d, a, api.TooLong)
		}
		for _, kind := range kinds() {
			sameAnswer(t, m, d, plain(kind))
		}
	}
}

// 20.2: fields of other kinds do not matter: they change no answer, and are refused by none.
func TestFieldsOfOthers(t *testing.T) {
	for seed := range uint64(20) {
		c := configOf(seed)
		m, d := build(t, c, seed), adapterOf(t, c, seed)
		for _, kind := range kinds() {
			a := asking(askOf(kind, c.Vocab, seed), func(a *api.Ask) { a.Length = min(a.Length, 5) })
			tokens, vector := wantAnswer(t, m, d, a)
			for _, n := range []int{least, -1, 0, 1, 5, 65, most} {
				for _, heat := range []float64{math.NaN(), math.Inf(-1), 0, 7} {
					other := a
					if kind != api.Sample {
						other.TopK, other.Heat, other.Seed = n, heat, uint64(n)
					}
					if kind != api.Beam {
						other.Beams, other.Penalty = n, n
					}
					if kind == api.Embed {
						other.Length, other.Stop = n, n
					}
					checkAnswer(t, m, d, other, tokens, vector)
				}
			}
		}
	}
}

// strange is a number at the edges of what is right, or far off.
func strange(n int64) int {
	list := []int{least, -1 << 32, -1, 0, 1, 2, 3, 4, 5, 6, 8, 16, 17, 24, 64, 65, 1 << 32, 1 << 62, most}
	return list[uint64(n)%uint64(len(list))]
}

// spoilt is a model, an adapter and an ask of a seed, of which nothing may be right.
func spoilt(t *testing.T, seed uint64) (api.Model, api.Adapter, api.Ask) {
	t.Helper()
	n := mixed(40, seed+9)
	c := configOf(seed)
	m, d, a := build(t, c, seed), adapterOf(t, c, seed), askOf(kinds()[seed%4], c.Vocab, seed)
	a.Length = min(a.Length, 3)
	numbers := []*int{&m.Config.Dim, &m.Config.Heads, &m.Config.Layers, &m.Config.Vocab, &m.Config.Hidden, &m.Config.Experts, &m.Config.TopK, &m.Config.Window, &d.Rank, &d.Shift, &a.Kind, &a.Length, &a.Stop, &a.TopK, &a.Beams, &a.Penalty, &a.Prompt[0]}
	for i, number := range numbers {
		if n[i]%9 == 0 {
			*number = strange(n[i+17])
		}
	}
	for i, one := range slices.Concat(modelLists(&m), adapterLists(&d)) {
		if uint64(n[34])%97 == uint64(i) {
			*one = weights(int(uint64(n[35])%80), seed)
		}
	}
	switch uint64(n[36]) % 12 {
	case 0:
		m.Layers = nil
	case 1:
		d.Layers = nil
	case 2:
		a.Prompt = nil
	case 3:
		a.Prompt = make([]int, uint64(n[37])%100)
	case 4:
		m.Layers[0].Up = nil
	case 5:
		a.Heat = math.Float64frombits(uint64(n[38]))
	}
	return m, d, a
}

// R1, R2: whatever is handed in, no call ends in a panic, and beside an error there is nothing.
func TestNothingPanics(t *testing.T) {
	seen := map[api.Errno]int{}
	for seed := range uint64(6000) {
		m, d, a := spoilt(t, seed)
		tokens, vector, e := Answer(m, d, a)
		if e != api.OK && len(tokens)+len(vector) > 0 {
			t.Errorf("%+v, rank %d, %+v: %v, %v beside the error %d", m.Config, d.Rank, a, tokens, vector, e)
		}
		if e == api.OK && (len(tokens) > 0) == (len(vector) > 0) {
			t.Errorf("%+v, rank %d, %+v: %v, %v", m.Config, d.Rank, a, tokens, vector)
		}
		checkCheck(t, m.Config, a, wantCheck(m.Config, a))
		Rows(a)
		Cost(a)
		seen[e]++
	}
	for _, e := range []api.Errno{api.OK, api.ErrRange, api.ErrShape, api.Malformed, api.TooLong} {
		if seen[e] < 20 {
			t.Errorf("only %d with the outcome %d", seen[e], e)
		}
	}
}

// R1: nothing at all is handed in.
func TestNothingHandedIn(t *testing.T) {
	refuse(t, api.Model{}, api.Adapter{}, api.Ask{}, api.ErrRange)
	refuse(t, api.Model{Config: steady()}, api.Adapter{}, api.Ask{}, api.ErrShape)
	refuse(t, build(t, steady(), 1), api.Adapter{}, api.Ask{}, api.Malformed)
	checkCheck(t, api.Config{}, api.Ask{}, api.Malformed)
	for _, kind := range []int{least, -1, 0, 1, 2, 3, 4, 5, most} {
		for _, n := range []int{least, -1, 0, 1, most} {
			a := api.Ask{Kind: kind, Length: n, Stop: n, TopK: n, Beams: n, Penalty: n}
			Rows(a)
			Cost(a)
			checkCheck(t, steady(), a, api.Malformed)
			refuse(t, build(t, steady(), 1), none, a, api.Malformed)
		}
	}
}
