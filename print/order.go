package print

import (
	"armillary/api"
)

// ordered tells whether each child comes ahead of its node, and no node is twice a child or a declaration's. Without this, or with more nodes than there may be, the writing of a module might not end, or go too deep.
func ordered(m api.Module) bool {
	if len(m.Nodes) > api.MaxNodes {
		return false
	}
	used := make([]bool, len(m.Nodes))
	for i, n := range m.Nodes {
		if !use(used[:i], n.L) {
			return false
		}
	}
	return use(used, roots(m))
}

// use marks some nodes as used; it tells whether all of them exist and none was used.
func use(used []bool, nodes []int) bool {
	for _, n := range nodes {
		if n < 0 || n >= len(used) || used[n] {
			return false
		}
		used[n] = true
	}
	return true
}

// roots returns the nodes of the declarations.
func roots(m api.Module) (l []int) {
	for _, d := range m.Types {
		l = append(l, d.Type)
	}
	for _, f := range m.Fns {
		for _, v := range f.Vars {
			l = append(l, v.Type)
		}
		for _, v := range f.Params {
			l = append(l, v.Type)
		}
		l = append(l, f.Ret, f.Body)
	}
	return l
}
