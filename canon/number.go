package canon

import (
	"armillary/api"
	"armillary/graph"
)

// number returns the canonical graph, and the positions of the roots, for a ranking that no round makes deeper any more: types are equal if their forms are.
func (r *ranking) number(roots []int) (h []api.GNode, at []int) {
	positions := map[string]int{}
	var reach func(forms []int) int
	reach = func(forms []int) int {
		key := keyOf(forms)
		if n, ok := positions[key]; ok {
			return n
		}
		n := len(h)
		// The node is numbered ahead of its children: they may lead back to it.
		positions[key] = n
		node, children := r.node(forms)
		h = append(h, node)
		for _, child := range children {
			to := reach(child)
			h[n].L = append(h[n].L, to)
		}
		return n
	}
	for _, root := range roots {
		at = append(at, reach(r.forms[root]))
	}
	return graph.Copy(h), at
}

// node returns the node of all types with some forms, without L, and the forms of its children.
func (r *ranking) node(forms []int) (n api.GNode, children [][]int) {
	if len(forms) > 1 {
		for i := range forms {
			children = append(children, forms[i:i+1])
		}
		return api.GNode{Kind: api.TUnion}, children
	}
	n = r.graph[r.order[forms[0]]]
	for _, child := range n.L {
		children = append(children, r.forms[child])
	}
	n.L = nil
	return n, children
}

// keyOf writes ranks in two bytes each: they are less than MaxTypes.
func keyOf(forms []int) string {
	var b []byte
	for _, rank := range forms {
		b = append(b, byte(rank>>8), byte(rank))
	}
	return string(b)
}
