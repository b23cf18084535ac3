package sub

import (
	"slices"
	"strings"

	"armillary/api"
)

// A pair asks whether the type a is a subtype of the type b.
type pair struct{ a, b int }

// A relation tells which pairs hold, of those that are asked, and of all on which they depend. All of them are taken to hold at first; then those are refuted that do not. What remains is the greatest relation.
type relation struct {
	graph  []api.GNode
	strict bool

	pairs   []pair  // all that are reached, each once
	refuted []pair  // those that have no reason left, as long as none of those that depend on them knows it
	assumed pairSet // those without a union of which b is taken to cover a

	byLeft  [][]int16 // how many reasons a pair has left: by a, then b
	byRight [][]int16 // and if a is a union, by b, then a: what is refuted for many unions shall lie side by side

	known  []bool    // the nodes that are in a pair
	unions [][]int   // of each node, the known unions whose member it is
	users  [][]users // of each node, by increasing keys
}

// Users are the known records in which a node is the type of a key; if the key is empty, the known variables whose bound it is.
type users struct {
	key   string
	nodes []int
}

// newRelation returns the relation for the pairs of some types with some others, in a valid graph.
func newRelation(g []api.GNode, strict bool, left, right []int) *relation {
	size := len(g)
	r := &relation{
		graph: g, strict: strict,
		pairs: make([]pair, 0, len(left)*len(right)), assumed: pairSet{},
		byLeft: make([][]int16, size), byRight: make([][]int16, size),
		known: make([]bool, size), unions: make([][]int, size), users: make([][]users, size),
	}
	for _, a := range left {
		for _, b := range right {
			r.reach(pair{a, b})
		}
	}
	r.examine()
	r.count()
	r.settle()
	return r
}

// holds tells whether a pair that is reached holds.
func (r *relation) holds(p pair) bool {
	row, i := r.row(p)
	return (*row)[i] > 0
}

// row returns where the number of a pair's reasons is. The row is nil as long as none of its pairs is reached.
func (r *relation) row(p pair) (row *[]int16, i int) {
	if r.graph[p.a].Kind == api.TUnion {
		return &r.byRight[p.b], p.a
	}
	return &r.byLeft[p.a], p.b
}

// reach adds a pair. It has one reason to begin with: if a is a union, all its members; if a is a variable, its bound; otherwise none that counts: settle takes it back.
func (r *relation) reach(p pair) {
	row, i := r.row(p)
	if *row == nil {
		*row = make([]int16, len(r.graph))
	}
	if (*row)[i] > 0 {
		return
	}
	(*row)[i] = 1
	r.pairs = append(r.pairs, p)
	r.know(p.a)
	r.know(p.b)
}

// complete tells whether there is no pair that could still be reached: then the members of great unions, which may be a thousand million in all pairs, need not be gone through.
func (r *relation) complete() bool { return len(r.pairs) == len(r.graph)*len(r.graph) }

// know adds a node to the unions, or users, of those in its L.
func (r *relation) know(n int) {
	if r.known[n] {
		return
	}
	r.known[n] = true
	node := r.graph[n]
	for i, child := range node.L {
		switch node.Kind {
		case api.TUnion:
			r.unions[child] = append(r.unions[child], n)
		case api.TVar:
			r.use(child, "", n)
		case api.TRec:
			r.use(child, node.Keys[i], n)
		}
	}
}

func (r *relation) use(n int, key string, user int) {
	l := r.users[n]
	i, ok := slices.BinarySearchFunc(l, key, func(u users, key string) int { return strings.Compare(u.key, key) })
	if !ok {
		l = slices.Insert(l, i, users{key: key})
	}
	l[i].nodes = append(l[i].nodes, user)
	r.users[n] = l
}

// boundedBy returns the known variables whose bound a node is.
func (r *relation) boundedBy(n int) []int {
	if l := r.users[n]; len(l) > 0 && l[0].key == "" {
		return l[0].nodes
	}
	return nil
}
