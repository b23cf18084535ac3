package sub

import (
	"slices"

	"armillary/api"
)

// rules returns the rules of which the first one that applies decides about a pair, so a rule is tried only where those ahead of it do not apply. It reaches the pairs on which the pair depends, and assumes, where b may cover a, that it does.
func rules() []func(*relation, pair) bool {
	return []func(*relation, pair) bool{
		(*relation).itself, (*relation).unlike,
		(*relation).ofUnion, (*relation).ofBound, (*relation).inUnion,
		(*relation).dyn, (*relation).plain, (*relation).variable, (*relation).record,
	}
}

// examine tries the rules on all pairs, also on those that are only reached by it.
func (r *relation) examine() {
	rules := rules()
pairs:
	for i := 0; i < len(r.pairs); i++ {
		for _, applies := range rules {
			if applies(r, r.pairs[i]) {
				continue pairs
			}
		}
	}
}

// itself spares what is below a type that is held against itself: the relation is reflexive.
func (r *relation) itself(p pair) bool {
	if p.a != p.b {
		return false
	}
	if r.graph[p.a].Kind != api.TUnion {
		r.assumed.add(p)
	}
	return true
}

// unlike tells that a pair cannot hold, whatever other ones do.
func (r *relation) unlike(p pair) bool {
	a, b := r.graph[p.a], r.graph[p.b]
	if a.Kind == api.TUnion || a.Kind == api.TVar || b.Kind == api.TUnion {
		return false
	}
	if !r.strict && (a.Kind == api.TDyn || b.Kind == api.TDyn) {
		return false
	}
	return a.Kind != b.Kind || a.Name != b.Name
}

func (r *relation) ofUnion(p pair) bool {
	a := r.graph[p.a]
	if a.Kind != api.TUnion {
		return false
	}
	if r.complete() {
		return true
	}
	for _, s := range a.L {
		r.reach(pair{s, p.b})
	}
	return true
}

// ofBound leaves it to the other rules whether the variable is covered as well.
func (r *relation) ofBound(p pair) bool {
	if a := r.graph[p.a]; a.Kind == api.TVar {
		r.reach(pair{a.L[0], p.b})
	}
	return false
}

func (r *relation) inUnion(p pair) bool {
	b := r.graph[p.b]
	if b.Kind != api.TUnion {
		return false
	}
	if r.complete() {
		return true
	}
	if slices.Contains(b.L, p.a) {
		r.reach(pair{p.a, p.a})
		return true
	}
	for _, t := range b.L {
		r.reach(pair{p.a, t})
	}
	return true
}

func (r *relation) dyn(p pair) bool {
	if r.strict || r.graph[p.a].Kind != api.TDyn && r.graph[p.b].Kind != api.TDyn {
		return false
	}
	r.assumed.add(p)
	return true
}

// plain is the rule for the kinds without L; strictly, TDyn is one of them. Those that are unlike have been told before.
func (r *relation) plain(p pair) bool {
	if r.graph[p.a].Kind > api.TTag {
		return false
	}
	r.assumed.add(p)
	return true
}

func (r *relation) variable(p pair) bool {
	s, t := r.graph[p.a], r.graph[p.b]
	if s.Kind != api.TVar || t.Kind != api.TVar || s.Num != t.Num {
		return false
	}
	r.assumed.add(p)
	r.reach(pair{s.L[0], t.L[0]})
	return true
}

func (r *relation) record(p pair) bool {
	s, t := r.graph[p.a], r.graph[p.b]
	if s.Kind != api.TRec || t.Kind != api.TRec {
		return false
	}
	// Where one field is unlike, nothing must be known of the others.
	l, ok := fields(s, t)
	if !ok || slices.ContainsFunc(l, r.unlike) {
		return true
	}
	r.assumed.add(p)
	for _, field := range l {
		r.reach(field)
	}
	return true
}

// fields returns, for each key of t, its types in s and in t, if s has all these keys.
func fields(s, t api.GNode) (l []pair, ok bool) {
	l = make([]pair, 0, len(t.Keys))
	at := 0
	for i, key := range t.Keys {
		for at < len(s.Keys) && s.Keys[at] < key {
			at++
		}
		if at == len(s.Keys) || s.Keys[at] != key {
			return nil, false
		}
		l = append(l, pair{s.L[at], t.L[i]})
	}
	return l, true
}
