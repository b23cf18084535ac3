package sig

import (
	"cmp"

	"armillary/api"
	"armillary/wire"
)

// reader reads a signature, up to the first error.
type reader struct {
	wire *wire.Reader
	err  api.Errno // of a number that could be read, but announces too many
}

func (r *reader) sig() (s api.Sig) {
	r.inOrder(
		part(&s.Module, r.wire.Text),
		part(&s.Names, r.texts),
		part(&s.Types, r.nums),
		part(&s.Fns, r.fns),
		part(&s.Graph, r.graph),
	)
	return s
}

func (r *reader) fns() []api.SigFn { return readAll(r, api.MaxDecls, r.fn) }

func (r *reader) fn() (f api.SigFn) {
	r.inOrder(
		part(&f.Name, r.wire.Text),
		part(&f.Bounds, r.nums),
		part(&f.Params, r.nums),
		part(&f.Ret, r.wire.Num),
	)
	return f
}

func (r *reader) graph() []api.GNode { return readAll(r, api.MaxTypes, r.node) }

func (r *reader) node() (n api.GNode) {
	r.inOrder(
		part(&n.Kind, r.wire.Num),
		part(&n.Num, r.wire.Num),
		part(&n.Name, r.wire.Text),
		part(&n.Keys, r.texts),
		part(&n.L, r.nums),
	)
	return n
}

// nums and texts only call those of wire. Method values of those themselves must not be taken here: for them Go 1.27.3 compiles functions that keep pointers to the stack in the heap.
func (r *reader) nums() []int     { return r.wire.Nums() }
func (r *reader) texts() []string { return r.wire.Texts() }

// part returns what reads a part by a method of a reader.
func part[T any](to *T, read func() T) func() { return func() { *to = read() } }

// inOrder reads parts one after the other, up to the first error.
func (r *reader) inOrder(parts ...func()) {
	for _, read := range parts {
		if r.first() != api.OK {
			return
		}
		read()
	}
}

// readAll reads how many elements there are, at most so many, and each of them by a method of a reader.
func readAll[T any](r *reader, most int, read func() T) (l []T) {
	n := r.wire.Num()
	if n > most {
		r.err = api.ErrLimit
		return nil
	}
	for k := 0; k < n && r.first() == api.OK; k++ {
		l = append(l, read())
	}
	return l
}

// first returns the first error.
func (r *reader) first() api.Errno { return cmp.Or(r.err, r.wire.Err()) }

// end returns the first error, which bytes that remain are, too.
func (r *reader) end() api.Errno { return cmp.Or(r.err, r.wire.End()) }
