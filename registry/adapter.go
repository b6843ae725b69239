package registry

import (
	"slices"

	"aviary/api"
	"aviary/graft"
)

// maxUsed is how many may use an adapter at most.
const maxUsed = 1000000

// adapter is the version that an adapter belongs to, the adapter itself, and how many use it. Its weights are kept here, too, as the shelf tells only those that are in pages.
type adapter struct {
	of          label
	rank, shift int
	weights     []int8
	used        int
}

// Graft lays an adapter in, for the current version of a name.
func (r *Registry) Graft(key, name string, d api.Adapter) api.Errno {
	if !isName(key) {
		return api.Malformed
	}
	number, ok := r.current[name]
	if !ok {
		return api.UnknownModel
	}
	if r.adapters[key] != nil || r.shelf.Pins(key) >= 0 {
		return api.VersionTaken
	}
	at := label{name, number}
	one := r.versions[at]
	if graft.Check(d, one.config) != api.OK {
		return api.Malformed
	}
	w := graft.Flat(d, one.config)
	// Put refuses nothing here: the key is one, and nothing is on the shelf under it.
	r.shelf.Put(key, w)
	r.adapters[key] = &adapter{of: at, rank: d.Rank, shift: d.Shift, weights: w}
	one.keys = append(one.keys, key)
	return api.OK
}

// Adapter is an adapter, if it is one of a version.
func (r *Registry) Adapter(key, name string, version int) (api.Adapter, api.Errno) {
	at := label{name, version}
	one := r.adapters[key]
	if one == nil || one.of != at {
		return api.Adapter{}, api.UnknownModel
	}
	return graft.Shape(one.rank, one.shift, r.versions[at].config, one.weights)
}

// Use says how many more (or fewer) use an adapter.
func (r *Registry) Use(key string, by int) api.Errno {
	one := r.adapters[key]
	if one == nil {
		return api.UnknownModel
	}
	// Compared with what is left on either side, as a sum would wrap round at the ends.
	if by < -one.used || by > maxUsed-one.used {
		return api.ErrRange
	}
	one.used += by
	return api.OK
}

// Remove takes an adapter away.
func (r *Registry) Remove(key string) api.Errno {
	one := r.adapters[key]
	if one == nil {
		return api.UnknownModel
	}
	if one.used > 0 {
		return api.Draining
	}
	if e := r.shelf.Remove(key); e != api.OK {
		return e
	}
	delete(r.adapters, key)
	of := r.versions[one.of]
	of.keys = slices.DeleteFunc(of.keys, func(k string) bool { return k == key })
	return api.OK
}
