package link

import (
	"iter"
	"slices"
)

// inTurn yields, until there is none, the first item that was not yielded yet, and all of whose needs were.
func inTurn[T comparable](items []T, needs func(T) []T) iter.Seq[T] {
	return func(yield func(T) bool) {
		turns := map[T]int{} // from 1: an item without one has the turn 0
		waits := func(item T) bool { return turns[item] == 0 }
		ready := func(item T) bool { return waits(item) && !slices.ContainsFunc(needs(item), waits) }
		for {
			next := slices.IndexFunc(items, ready)
			if next < 0 || !yield(items[next]) {
				return
			}
			turns[items[next]] = len(turns) + 1
		}
	}
}

// needed yields the needs of an item, and the needs of these, each one once.
func needed[T comparable](item T, needs func(T) []T) iter.Seq[T] {
	return func(yield func(T) bool) {
		found := map[T]int{}
		wait := slices.Clone(needs(item))
		for len(wait) > 0 {
			next := wait[0]
			wait = wait[1:]
			if found[next] > 0 {
				continue
			}
			if !yield(next) {
				return
			}
			found[next]++
			wait = append(wait, needs(next)...)
		}
	}
}
