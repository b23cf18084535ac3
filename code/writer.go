package code

import (
	"armillary/api"
	"armillary/wire"
)

// writer writes, up to the first error.
type writer struct {
	bytes []byte
	err   api.Errno
}

// writers write the contents of the sections, in their order.
func writers() [sections]func(*writer, api.Cert) {
	return [sections]func(*writer, api.Cert){
		(*writer).module,
		(*writer).graph,
		(*writer).types,
		(*writer).args,
		(*writer).facts,
		(*writer).uses,
		(*writer).sums,
	}
}

func (w *writer) module(c api.Cert) { w.text(c.Module) }
func (w *writer) graph(c api.Cert)  { writeAll(w, c.Graph, (*writer).node) }
func (w *writer) types(c api.Cert)  { w.numsOrNone(c.Types) }
func (w *writer) args(c api.Cert)   { writeAll(w, c.Args, (*writer).arg) }
func (w *writer) facts(c api.Cert)  { writeAll(w, c.Facts, (*writer).fact) }
func (w *writer) uses(c api.Cert)   { writeAll(w, c.Uses, (*writer).use) }
func (w *writer) sums(c api.Cert)   { writeAll(w, c.Sums, (*writer).sum) }

// node writes a node of a valid graph.
func (w *writer) node(n api.GNode) {
	w.num(n.Kind)
	switch n.Kind {
	case api.TTag:
		w.text(n.Name)
	case api.TRec:
		w.add(wire.Texts(nil, n.Keys))
		w.nums(n.L)
	case api.TUnion:
		w.nums(n.L)
	case api.TVar:
		w.num(n.Num)
		w.num(n.L[0])
	}
}

func (w *writer) arg(a api.Arg) {
	w.num(a.Node)
	w.nums(a.Types)
}

func (w *writer) fact(f api.Fact) {
	w.num(f.A)
	w.num(f.B)
	w.numsOrNone(f.Why)
}

func (w *writer) use(u api.Use) {
	w.num(u.Node)
	w.num(u.Part)
	w.num(u.Fact)
}

func (w *writer) sum(s api.Sum) {
	w.text(s.Module)
	w.num(s.Sum)
}

// writeAll writes how many elements a list has, and each of them by a function. It ends at an error: the facts of a valid certificate may have many times the bytes that it may have.
func writeAll[T any](w *writer, l []T, write func(*writer, T)) {
	w.num(len(l))
	for _, x := range l {
		if w.err != api.OK {
			return
		}
		write(w, x)
	}
}

// All is written behind nothing and added: wire would copy what it is to write behind.
func (w *writer) num(n int)     { w.add(wire.Num(nil, n)) }
func (w *writer) text(s string) { w.add(wire.Text(nil, s)) }
func (w *writer) nums(l []int)  { w.add(wire.Nums(nil, l)) }

// numsOrNone writes numbers that may be -1.
func (w *writer) numsOrNone(l []int) {
	next := make([]int, len(l))
	for i, n := range l {
		next[i] = n + 1
	}
	w.nums(next)
}

// add takes what was written, or why it was not. No part may be longer than the whole, so the limit of the whole holds for each writer.
func (w *writer) add(b []byte, e api.Errno) {
	switch {
	case w.err != api.OK:
	case e != api.OK:
		w.err = e
	case len(w.bytes)+len(b) > api.MaxBytes:
		w.err = api.ErrLimit
	default:
		w.bytes = append(w.bytes, b...)
	}
}

// written returns all that was written, or the first error.
func (w *writer) written() ([]byte, api.Errno) {
	if w.err != api.OK {
		return nil, w.err
	}
	return w.bytes, api.OK
}
