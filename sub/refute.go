package sub

import "armillary/api"

// count gives one more reason to each pair of which b is assumed to cover a, and to the pairs of this a with the unions whose member this b is.
func (r *relation) count() {
	for at, bits := range r.assumed {
		for _, p := range at.pairs(bits) {
			row := r.byLeft[p.a]
			row[p.b]++
			for _, u := range r.unions[p.b] {
				if row[u] > 0 {
					row[u]++
				}
			}
		}
	}
}

// settle takes back the reason that pairs had to begin with, where it does not count, and refutes those that have no other one.
func (r *relation) settle() {
	for _, p := range r.pairs {
		if kind := r.graph[p.a].Kind; kind != api.TUnion && kind != api.TVar {
			r.drop(p)
			r.refute()
		}
	}
}

// drop takes a reason from a pair. Nothing is taken from one that is not reached, or that is refuted.
func (r *relation) drop(p pair) {
	row, i := r.row(p)
	if *row == nil || (*row)[i] == 0 {
		return
	}
	(*row)[i]--
	if (*row)[i] == 0 {
		r.refuted = append(r.refuted, p)
	}
}

// refute takes their reason from all pairs that depend on those that are refuted.
func (r *relation) refute() {
	for len(r.refuted) > 0 {
		last := len(r.refuted) - 1
		p := r.refuted[last]
		r.refuted = r.refuted[:last]
		for _, union := range r.unions[p.a] {
			r.drop(pair{union, p.b})
		}
		for _, v := range r.boundedBy(p.a) {
			r.drop(pair{v, p.b})
		}
		r.uncoverUsers(r.users[p.a], r.users[p.b])
	}
}

// uncoverUsers refutes that a user of one type is covered by one of another type at the same key. Variables are users at one key, whatever their Num: if it differs, nothing was assumed.
func (r *relation) uncoverUsers(left, right []users) {
	for len(left) > 0 && len(right) > 0 {
		switch a, b := left[0], right[0]; {
		case a.key < b.key:
			left = left[1:]
		case a.key > b.key:
			right = right[1:]
		default:
			for _, s := range a.nodes {
				for _, t := range b.nodes {
					r.uncover(pair{s, t})
				}
			}
			left, right = left[1:], right[1:]
		}
	}
}

// uncover takes back what count gave for a pair of which b does not cover a.
func (r *relation) uncover(p pair) {
	// The number of reasons is at hand, and most pairs have none any more.
	if row := r.byLeft[p.a]; row == nil || row[p.b] == 0 || !r.assumed.has(p) {
		return
	}
	r.assumed.remove(p)
	r.drop(p)
	for _, union := range r.unions[p.b] {
		r.drop(pair{p.a, union})
	}
}
