package sig

import (
	"cmp"

	"armillary/api"
	"armillary/wire"
)

// writer writes, and keeps the first error.
type writer struct {
	bytes []byte
	err   api.Errno
}

func (w *writer) sig(s api.Sig) {
	w.text(s.Module)
	w.texts(s.Names)
	w.nums(s.Types)
	writeAll(w, s.Fns, w.fn)
	writeAll(w, s.Graph, w.node)
}

func (w *writer) fn(f api.SigFn) {
	w.text(f.Name)
	w.nums(f.Bounds)
	w.nums(f.Params)
	w.num(f.Ret)
}

func (w *writer) node(n api.GNode) {
	w.num(n.Kind)
	w.num(n.Num)
	w.text(n.Name)
	w.texts(n.Keys)
	w.nums(n.L)
}

// writeAll writes how many elements a list has, and each of them by a method of a writer.
func writeAll[T any](w *writer, l []T, write func(T)) {
	w.num(len(l))
	for _, x := range l {
		write(x)
	}
}

// All is written behind nothing and added: wire would copy what it is to write behind.
func (w *writer) num(n int)        { w.add(wire.Num(nil, n)) }
func (w *writer) text(s string)    { w.add(wire.Text(nil, s)) }
func (w *writer) nums(l []int)     { w.add(wire.Nums(nil, l)) }
func (w *writer) texts(l []string) { w.add(wire.Texts(nil, l)) }

// add takes what was written, or why it was not.
func (w *writer) add(b []byte, e api.Errno) {
	w.bytes, w.err = append(w.bytes, b...), cmp.Or(w.err, e)
}

// written returns all that was written, or the first error.
func (w *writer) written() ([]byte, api.Errno) {
	if w.err != api.OK {
		return nil, w.err
	}
	return w.bytes, api.OK
}
