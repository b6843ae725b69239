package ckpt

import "aviary/api"

// visit hands over each list of a model with how many weights belong in it, in the weights' order.
// The configuration is right, and the model is framed as it says.
func visit(m *api.Model, do func(list *[]int8, count int)) {
	c := m.Config
	do(&m.Embed, c.Vocab*c.Dim)
	for i := range m.Layers {
		l := &m.Layers[i]
		do(&l.Norm1, c.Dim)
		do(&l.Q, c.Dim*c.Dim)
		do(&l.K, c.Dim*c.Dim)
		do(&l.V, c.Dim*c.Dim)
		do(&l.O, c.Dim*c.Dim)
		do(&l.Norm2, c.Dim)
		do(&l.Router, c.Experts*c.Dim)
		for j := range l.Up {
			do(&l.Up[j], c.Hidden*c.Dim)
			do(&l.Down[j], c.Dim*c.Hidden)
		}
	}
	do(&m.Norm, c.Dim)
	do(&m.Out, c.Vocab*c.Dim)
}

// framed tells whether a model has as many layers, and these as many Ups and Downs, as its configuration says.
func framed(m api.Model) bool {
	if len(m.Layers) != m.Config.Layers {
		return false
	}
	for _, l := range m.Layers {
		if len(l.Up) != networks(m.Config) || len(l.Down) != networks(m.Config) {
			return false
		}
	}
	return true
}

// blank is a framed model of a right configuration, with no weights yet.
func blank(c api.Config) api.Model {
	layers := make([]api.Layer, c.Layers)
	for i := range layers {
		layers[i].Up = make([][]int8, networks(c))
		layers[i].Down = make([][]int8, networks(c))
	}
	return api.Model{Config: c, Layers: layers}
}

// networks is how many pairs of Up and Down a layer has: without experts there is one all the same.
func networks(c api.Config) int {
	return max(c.Experts, 1)
}
