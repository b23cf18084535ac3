package graph

import (
	"slices"

	"armillary/api"
)

// loop returns ErrLoop if a module has types that loop: at the first one's node, or at -1 if it is another module than the one that was asked for.
func (f forest) loop() (node int, e api.Errno) {
	w := walk{f, map[place]int{}}
	last := len(f.modules) - 1
	for _, name := range f.modules[:last] {
		if _, e = w.loopIn(name); e != api.OK {
			return -1, e
		}
	}
	return w.loopIn(f.modules[last])
}

// What is known of a node during a walk. One that is under way stays so if it turns out to be endless.
const (
	underWay = 1
	ends     = 2
)

// A walk goes through expansions, through each node once.
type walk struct {
	forest
	known map[place]int
}

// loopIn returns ErrLoop, and the node, at the first declared type without an end, or else at the first bound with a type parameter.
func (w walk) loopIn(module string) (node int, e api.Errno) {
	for _, d := range w.trees[module].Types {
		if w.endless(place{module, d.Type}) {
			return d.Type, api.ErrLoop
		}
	}
	for _, fn := range w.trees[module].Fns {
		for _, v := range fn.Vars {
			if w.open(place{module, v.Type}) {
				return v.Type, api.ErrLoop
			}
		}
	}
	return 0, api.OK
}

// endless tells whether the expansion of a type node leads back to a node that it has come through.
func (w walk) endless(p place) bool {
	if state := w.known[p]; state > 0 {
		return state == underWay
	}
	w.known[p] = underWay
	if slices.ContainsFunc(w.parts(p), w.endless) {
		return true
	}
	w.known[p] = ends
	return false
}

// open tells whether a type contains a type parameter.
func (w walk) open(p place) bool {
	if _, _, ok := w.param(p); ok {
		return true
	}
	return slices.ContainsFunc(w.children(p), w.open)
}
