package sig

import (
	"slices"

	"armillary/api"
	"armillary/canon"
	"armillary/lex"
)

// valid tells whether something is a signature. If its graph is that of its roots, the roots lie where it says: no two nodes of such a graph are equal.
func valid(s api.Sig) bool {
	return lex.IsName(s.Module) &&
		declares(s.Names, lex.IsType) &&
		len(s.Types) == len(s.Names) &&
		declares(mapped(s.Fns, nameOf), lex.IsName) &&
		!slices.ContainsFunc(s.Fns, hasMore) &&
		canon.Check(s.Graph, roots(s)) == api.OK
}

// declares tells whether there may be declarations with these names.
func declares(names []string, isName func(string) bool) bool {
	if len(names) > api.MaxDecls {
		return false
	}
	for i, name := range names {
		if !isName(name) || slices.Contains(names[:i], name) {
			return false
		}
	}
	return true
}

func nameOf(f api.SigFn) string { return f.Name }

// hasMore tells whether a function has more type parameters, or parameters, than one may have.
func hasMore(f api.SigFn) bool {
	return len(f.Bounds) > api.MaxParts || len(f.Params) > api.MaxParts
}
