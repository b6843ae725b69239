package registry

import "aviary/api"

// lists is all lists of a model, in the order that the document of models says; an empty one is of length 0.
func lists(m api.Model) [][]int8 {
	all := [][]int8{m.Embed}
	for _, l := range m.Layers {
		all = append(all, l.Norm1, l.Q, l.K, l.V, l.O, l.Norm2, l.Router)
		for i := range max(len(l.Up), len(l.Down)) {
			if i < len(l.Up) {
				all = append(all, l.Up[i])
			}
			if i < len(l.Down) {
				all = append(all, l.Down[i])
			}
		}
	}
	all = append(all, m.Norm, m.Out)
	return plain(all)
}

// adapterLists is the same of an adapter.
func adapterLists(d api.Adapter) [][]int8 {
	var all [][]int8
	for _, l := range d.Layers {
		all = append(all, l.QA, l.QB, l.VA, l.VB)
	}
	return plain(all)
}

// plain is copies of lists, none of which is nil.
func plain(all [][]int8) [][]int8 {
	for i, one := range all {
		all[i] = append([]int8{}, one...)
	}
	return all
}

func joined(all [][]int8) []int8 {
	var w []int8
	for _, one := range all {
		w = append(w, one...)
	}
	return w
}

// flat is all weights of a model one behind the other.
func flat(m api.Model) []int8 {
	return joined(lists(m))
}

// flatAdapter is all weights of an adapter one behind the other.
func flatAdapter(d api.Adapter) []int8 {
	return joined(adapterLists(d))
}

// weights is so many weights, other ones for each seed.
func weights(n, seed int) []int8 {
	w := make([]int8, n)
	for i := range w {
		w[i] = int8(i*7 + seed*31 + (i*seed)%5 - 128)
	}
	return w
}

// cutter hands out lists of weights that differ from one another.
func cutter(seed int) func(n int) []int8 {
	at := 0
	return func(n int) []int8 {
		at++
		return weights(n, seed*101+at)
	}
}

// made is a model of a configuration that is right, with other weights for each seed.
func made(c api.Config, seed int) api.Model {
	next := cutter(seed)
	m := api.Model{Config: c, Embed: next(c.Vocab * c.Dim)}
	for range c.Layers {
		l := api.Layer{
			Norm1: next(c.Dim), Norm2: next(c.Dim), Router: next(c.Experts * c.Dim),
			Q: next(c.Dim * c.Dim), K: next(c.Dim * c.Dim), V: next(c.Dim * c.Dim), O: next(c.Dim * c.Dim),
		}
		for range max(c.Experts, 1) {
			l.Up, l.Down = append(l.Up, next(c.Hidden*c.Dim)), append(l.Down, next(c.Dim*c.Hidden))
		}
		m.Layers = append(m.Layers, l)
	}
	m.Norm, m.Out = next(c.Dim), next(c.Vocab*c.Dim)
	return m
}

// madeAdapter is an adapter of a rank that is right for a configuration.
func madeAdapter(c api.Config, rank, shift, seed int) api.Adapter {
	next := cutter(seed)
	d := api.Adapter{Rank: rank, Shift: shift}
	for range c.Layers {
		n := rank * c.Dim
		d.Layers = append(d.Layers, api.Graft{QA: next(n), QB: next(n), VA: next(n), VB: next(n)})
	}
	return d
}

// copied is a model that shares no memory with the one that it is of.
func copied(m api.Model) api.Model {
	layers := m.Layers
	m.Embed, m.Norm, m.Out, m.Layers = fresh(m.Embed), fresh(m.Norm), fresh(m.Out), nil
	for _, l := range layers {
		l = api.Layer{
			Norm1: fresh(l.Norm1), Q: fresh(l.Q), K: fresh(l.K), V: fresh(l.V), O: fresh(l.O), Norm2: fresh(l.Norm2), Router: fresh(l.Router),
			Up: freshAll(l.Up), Down: freshAll(l.Down),
		}
		m.Layers = append(m.Layers, l)
	}
	return m
}

func copiedAdapter(d api.Adapter) api.Adapter {
	layers := d.Layers
	d.Layers = nil
	for _, l := range layers {
		d.Layers = append(d.Layers, api.Graft{QA: fresh(l.QA), QB: fresh(l.QB), VA: fresh(l.VA), VB: fresh(l.VB)})
	}
	return d
}

func fresh(w []int8) []int8 {
	return append([]int8(nil), w...)
}

func freshAll(all [][]int8) [][]int8 {
	var out [][]int8
	for _, one := range all {
		out = append(out, fresh(one))
	}
	return out
}

// small is the configuration with the fewest weights: 34, that take two pages.
func small() api.Config {
	return api.Config{Dim: 2, Heads: 1, Layers: 1, Vocab: 2, Hidden: 1}
}

// wide is a configuration of 100 weights, that take four pages.
func wide() api.Config {
	return api.Config{Dim: 4, Heads: 1, Layers: 1, Vocab: 2, Hidden: 1, Window: 3}
}

// broad is a configuration of two layers, with experts, of 252 weights, that take eight pages.
func broad() api.Config {
	return api.Config{Dim: 4, Heads: 2, Layers: 2, Vocab: 3, Hidden: 2, Experts: 2, TopK: 1}
}

// configs is configurations of each kind that is right: each Dim with each count of heads, each count of layers and experts, the ends of the others.
func configs() []api.Config {
	var all []api.Config
	for _, dim := range []int{2, 4, 6, 8} {
		for heads := 1; heads <= dim/2; heads++ {
			if dim%heads != 0 || dim/heads%2 != 0 {
				continue
			}
			all = append(all, configsOf(dim, heads)...)
		}
	}
	return all
}

func configsOf(dim, heads int) []api.Config {
	var all []api.Config
	for _, layers := range []int{1, 2} {
		for _, vocab := range []int{2, 3, 16} {
			for _, hidden := range []int{1, 5, 8} {
				for _, window := range []int{0, 1, 16} {
					c := api.Config{Dim: dim, Heads: heads, Layers: layers, Vocab: vocab, Hidden: hidden, Window: window}
					all = append(all, c)
					for experts := 2; experts <= 4; experts++ {
						for top := 1; top <= experts; top++ {
							c.Experts, c.TopK = experts, top
							all = append(all, c)
						}
					}
				}
			}
		}
	}
	return all
}
