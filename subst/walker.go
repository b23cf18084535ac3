package subst

import (
	"iter"

	"armillary/api"
)

// A walker goes through the types of a valid graph.
type walker struct{ graph []api.GNode }

// contents yields what a type contains, in the order in which it is reached: a node ahead of its children, each of these with everything below it.
func (w walker) contents(n int) iter.Seq[int] {
	return func(yield func(int) bool) {
		reached := make([]bool, len(w.graph))
		var visit func(n int) bool
		visit = func(n int) bool {
			if reached[n] {
				return true
			}
			reached[n] = true
			if !yield(n) {
				return false
			}
			for _, child := range w.children(n) {
				if !visit(child) {
					return false
				}
			}
			return true
		}
		visit(n)
	}
}

// children returns what is at L of a record or a union. A variable does not contain its bound.
func (w walker) children(n int) []int {
	if w.graph[n].Kind == api.TVar {
		return nil
	}
	return w.graph[n].L
}

// variables yields the numbers of the variables that a type contains, some of them several times.
func (w walker) variables(n int) iter.Seq[int] {
	return func(yield func(int) bool) {
		for m := range w.contents(n) {
			if node := w.graph[m]; node.Kind == api.TVar && !yield(node.Num) {
				return
			}
		}
	}
}

// affected returns what a type contains that contains a variable itself, in the order in which it is reached.
func (w walker) affected(n int) (l []int) {
	is := w.aboveVariables(n)
	for m := range w.contents(n) {
		if is[m] {
			l = append(l, m)
		}
	}
	return l
}

// aboveVariables tells of each node that a type contains whether it is a variable, or leads to one. It goes from the variables upwards, as types may lead in circles.
func (w walker) aboveVariables(n int) []bool {
	is, parents := make([]bool, len(w.graph)), make([][]int, len(w.graph))
	var wait []int
	for m := range w.contents(n) {
		if w.graph[m].Kind == api.TVar {
			wait = append(wait, m)
		}
		for _, child := range w.children(m) {
			parents[child] = append(parents[child], m)
		}
	}
	for len(wait) > 0 {
		m := wait[0]
		wait = wait[1:]
		if !is[m] {
			is[m] = true
			wait = append(wait, parents[m]...)
		}
	}
	return is
}
