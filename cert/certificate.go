package cert

import (
	"strings"

	"armillary/api"
	"armillary/canon"
	"armillary/fact"
)

// certificate returns that of a valid draft.
func certificate(d Draft) (api.Cert, api.Errno) {
	r := roots{index: map[int]int{}}
	d = translated(d, r.indexOf)
	g, at, e := canon.Of(d.Graph, r.nodes)
	if e != api.OK {
		return api.Cert{}, e
	}
	d = translated(d, positions(at).of)
	facts, used, e := fact.Find(g, mapped(d.Needs, ends))
	if e != api.OK {
		return api.Cert{}, e
	}
	uses := mapped(d.Needs, func(n api.Need) api.Use { return api.Use{Node: n.Node, Part: n.Part} })
	for i, k := range used {
		uses[i].Fact = k
	}
	return api.Cert{
		Module: strings.Clone(d.Module),
		Graph:  g,
		Types:  d.Types,
		Args:   d.Args,
		Facts:  facts,
		Uses:   uses,
		Sums:   mapped(d.Sums, copyOfSum),
	}, api.OK
}

func ends(n api.Need) [2]int { return [2]int{n.A, n.B} }

// translated returns a draft with other numbers for its types, in memory of their own. The types are gone through in the order of the roots.
func translated(d Draft, to func(int) int) Draft {
	d.Types = mapped(d.Types, to)
	d.Args = mapped(d.Args, func(a api.Arg) api.Arg { return api.Arg{Node: a.Node, Types: mapped(a.Types, to)} })
	d.Needs = mapped(d.Needs, func(n api.Need) api.Need {
		n.A, n.B = to(n.A), to(n.B)
		return n
	})
	return d
}

// roots are the nodes of a draft in the order in which they are met, each once: a root that is met again changes nothing, but canon takes only MaxNodes of them, fewer than a draft may name.
type roots struct {
	nodes []int
	index map[int]int
}

// indexOf returns the index of a node among the roots, of which it becomes one.
func (r *roots) indexOf(node int) int {
	if node == none {
		return none
	}
	i, ok := r.index[node]
	if !ok {
		i = len(r.nodes)
		r.nodes, r.index[node] = append(r.nodes, node), i
	}
	return i
}

// positions tell where each of the roots lies in the canonical graph.
type positions []int

func (p positions) of(root int) int {
	if root == none {
		return none
	}
	return p[root]
}
