package cert

import (
	"cmp"
	"math"
	"strings"

	"armillary/api"
	"armillary/fact"
	"armillary/graph"
	"armillary/lex"
)

// condition tells whether something is as a valid certificate, or draft, has it.
type condition func() bool

// met tries conditions in order, up to the first one that is not met.
func met(l []condition) bool { return every(l, func(c condition) bool { return c() }) }

// judged returns the error of what is to keep some limits and to meet some conditions.
func judged(limits, conditions []condition) api.Errno {
	switch {
	case !met(limits):
		return api.ErrLimit
	case !met(conditions):
		return api.ErrArg
	}
	return api.OK
}

func limitsOfCert(c api.Cert) []condition {
	return append(limits(withoutFacts(c)),
		func() bool { return len(c.Facts) <= api.MaxFacts },
		func() bool { return len(c.Uses) <= api.MaxFacts },
	)
}

func limitsOfDraft(d Draft) []condition {
	return append(limits(d), func() bool { return len(d.Needs) <= api.MaxFacts })
}

// limits are those of what a certificate and a draft have in common.
func limits(d Draft) []condition {
	return []condition{
		func() bool { return len(d.Graph) <= api.MaxTypes },
		func() bool { return len(d.Types) <= api.MaxNodes },
	}
}

func conditionsOfCert(c api.Cert) []condition {
	d := withoutFacts(c)
	return append(conditions(d),
		func() bool { return fact.Check(c.Graph, c.Facts) == api.OK },
		func() bool { return hasPlaces(d, mapped(c.Uses, placeOfUse)) },
		func() bool {
			return every(c.Uses, func(u api.Use) bool { return 0 <= u.Fact && u.Fact < len(c.Facts) })
		},
	)
}

func conditionsOfDraft(d Draft) []condition {
	return append(conditions(d),
		func() bool { return hasPlaces(d, mapped(d.Needs, placeOfNeed)) },
		func() bool {
			return every(d.Needs, func(n api.Need) bool { return d.hasType(n.A) && d.hasType(n.B) })
		},
	)
}

// conditions are those of what a certificate and a draft have in common.
func conditions(d Draft) []condition {
	return []condition{
		func() bool { return lex.IsName(d.Module) },
		func() bool { return graph.Check(d.Graph) == api.OK },
		func() bool {
			return every(d.Types, func(n int) bool { return n == none || d.hasType(n) })
		},
		func() bool { return every(d.Args, d.hasArg) && isRising(d.Args, compareArgs) },
		func() bool { return len(d.Sums) <= api.MaxModules },
		func() bool { return every(d.Sums, isSum) && isRising(d.Sums, compareSums) },
	}
}

// withoutFacts returns what a certificate has in common with a draft; it shares the certificate's memory.
func withoutFacts(c api.Cert) Draft {
	return Draft{Module: c.Module, Graph: c.Graph, Types: c.Types, Args: c.Args, Sums: c.Sums}
}

// hasType tells whether there is such a node of the graph.
func (d Draft) hasType(n int) bool { return 0 <= n && n < len(d.Graph) }

// hasNode tells whether there is such a node of the module, each of which has its place among the types.
func (d Draft) hasNode(n int) bool { return 0 <= n && n < len(d.Types) }

func (d Draft) hasArg(a api.Arg) bool {
	return d.hasNode(a.Node) && 1 <= len(a.Types) && len(a.Types) <= api.MaxParts && every(a.Types, d.hasType)
}

func compareArgs(a, b api.Arg) int { return cmp.Compare(a.Node, b.Node) }

func isSum(s api.Sum) bool { return lex.IsName(s.Module) && 0 <= s.Sum && s.Sum <= math.MaxUint32 }

func compareSums(a, b api.Sum) int { return strings.Compare(a.Module, b.Module) }

// place is where something is used, or needed.
type place struct{ node, part int }

func placeOfUse(u api.Use) place { return place{u.Node, u.Part} }

func placeOfNeed(n api.Need) place { return place{n.Node, n.Part} }

func hasPlaces(d Draft, l []place) bool {
	return every(l, func(p place) bool { return d.hasNode(p.node) && 0 <= p.part && p.part <= math.MaxUint8 }) &&
		isRising(l, comparePlaces)
}

func comparePlaces(p, q place) int {
	return cmp.Or(cmp.Compare(p.node, q.node), cmp.Compare(p.part, q.part))
}
