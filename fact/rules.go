package fact

import (
	"slices"

	"armillary/api"
)

// As the first number of Why, byBound stands for the bound of A. In a form, whole stands for B as it is.
const (
	byBound = -1
	whole   = -1
)

// A pair is the ends of a fact: a is a subtype of b.
type pair struct{ a, b int }

// A form is what a rule says of a fact: from its place first on, Why is the indices of count facts, one for each pair of parts. If it fits, the fact holds as soon as these facts have those ends.
type form struct {
	first, count int
	other        int // the node whose parts belong to those of A, or whole
	fits         bool
}

// A judge judges facts of a valid graph.
type judge struct{ graph []api.GNode }

// form returns what the first rule that applies says of a fact whose ends are nodes; not ok if none applies.
func (j *judge) form(f api.Fact) (x form, ok bool) {
	rules := [...]func(api.Fact) (form, bool){j.ofUnion, j.ofBound, j.ofMember}
	for _, rule := range rules {
		if x, ok = rule(f); ok {
			return x, true
		}
	}
	return form{}, false
}

// ofUnion is the rule for the members of A.
func (j *judge) ofUnion(f api.Fact) (form, bool) {
	a := j.graph[f.A]
	return form{first: 0, count: len(a.L), other: whole, fits: true}, a.Kind == api.TUnion
}

// ofBound is the rule for the bound of A.
func (j *judge) ofBound(f api.Fact) (form, bool) {
	applies := j.graph[f.A].Kind == api.TVar && len(f.Why) > 0 && f.Why[0] == byBound
	return form{first: 1, count: 1, other: whole, fits: true}, applies
}

// ofMember is the rule for a member of B that covers A, which is no union: the rule for those precedes it.
func (j *judge) ofMember(f api.Fact) (form, bool) {
	members := j.members(f.B)
	if len(f.Why) == 0 || f.Why[0] < 0 || f.Why[0] >= len(members) {
		return form{}, false
	}
	x := form{first: 1, other: members[f.Why[0]]}
	a, t := j.graph[f.A], j.graph[x.other]
	switch {
	case a.Kind == api.TRec && t.Kind == api.TRec:
		x.count, x.fits = len(t.Keys), true
	case a.Kind == api.TVar && t.Kind == api.TVar:
		x.count, x.fits = 1, a.Num == t.Num
	default:
		x.fits = a.Kind == api.TDyn || t.Kind == api.TDyn || a.Kind == t.Kind && a.Name == t.Name
	}
	return x, true
}

// part returns the ends of the i-th fact to which a fact of a form is to refer. They are no nodes if A lacks a key.
func (j *judge) part(f api.Fact, x form, i int) pair {
	a := j.graph[f.A]
	if x.other == whole {
		return pair{a.L[i], f.B}
	}
	t, at := j.graph[x.other], i
	if t.Kind == api.TRec {
		at = slices.Index(a.Keys, t.Keys[i])
	}
	if at < 0 {
		return pair{-1, -1}
	}
	return pair{a.L[at], t.L[i]}
}

// members returns the members of a type. They are not copied, as those of a great union are asked for by each of thousands of facts.
func (j *judge) members(n int) []int {
	if j.graph[n].Kind == api.TUnion {
		return j.graph[n].L
	}
	return []int{n}
}

// isWellFormed tells whether a fact is well-formed in a list of so many.
func (j *judge) isWellFormed(f api.Fact, facts int) bool {
	if !exists(j.graph, f.A) || !exists(j.graph, f.B) {
		return false
	}
	x, ok := j.form(f)
	if !ok || len(f.Why) != x.first+x.count {
		return false
	}
	return !slices.ContainsFunc(f.Why[x.first:], func(k int) bool { return k < 0 || k >= facts })
}

// holds tells whether a fact of a list holds. All of the list are well-formed.
func (j *judge) holds(l []api.Fact, k int) bool {
	f := l[k]
	x, _ := j.form(f)
	if !x.fits {
		return false
	}
	for i, at := range f.Why[x.first:] {
		if j.part(f, x, i) != (pair{l[at].A, l[at].B}) {
			return false
		}
	}
	return true
}

// casts goes through all facts of a list to which one refers. All of the list are well-formed.
func (j *judge) casts(l []api.Fact, k int) bool {
	reached := make([]bool, len(l))
	reached[k] = true
	for work := []int{k}; len(work) > 0; {
		f := l[work[len(work)-1]]
		work = work[:len(work)-1]
		if j.isCast(f) {
			return true
		}
		x, _ := j.form(f)
		for _, at := range f.Why[x.first:] {
			if !reached[at] {
				reached[at] = true
				work = append(work, at)
			}
		}
	}
	return false
}

// isCast tells whether a fact by itself lets a dyn stand for what has none.
func (j *judge) isCast(f api.Fact) bool {
	return j.isDyn(f.A) && !slices.ContainsFunc(j.members(f.B), j.isDyn)
}

func (j *judge) isDyn(n int) bool { return j.graph[n].Kind == api.TDyn }
