package code

import (
	"cmp"

	"armillary/api"
	"armillary/wire"
)

// reader reads the content of a section, up to the first error.
type reader struct {
	wire *wire.Reader
	err  api.Errno // of what was read without one, but may not be so
}

// readers read the contents of the sections, in their order.
func readers() [sections]func(*reader, *api.Cert) {
	return [sections]func(*reader, *api.Cert){
		(*reader).module,
		(*reader).graph,
		(*reader).types,
		(*reader).args,
		(*reader).facts,
		(*reader).uses,
		(*reader).sums,
	}
}

func (r *reader) module(c *api.Cert) { c.Module = r.wire.Text() }
func (r *reader) graph(c *api.Cert)  { c.Graph = readAll(r, (*reader).node) }
func (r *reader) types(c *api.Cert)  { c.Types = r.numsOrNone() }
func (r *reader) args(c *api.Cert)   { c.Args = readAll(r, (*reader).arg) }
func (r *reader) facts(c *api.Cert)  { c.Facts = readAll(r, (*reader).fact) }
func (r *reader) uses(c *api.Cert)   { c.Uses = readAll(r, (*reader).use) }
func (r *reader) sums(c *api.Cert)   { c.Sums = readAll(r, (*reader).sum) }

func (r *reader) node() api.GNode {
	n := api.GNode{Kind: r.wire.Num()}
	switch n.Kind {
	case api.TDyn, api.TNull, api.TBool, api.TInt:
	case api.TTag:
		n.Name = r.wire.Text()
	case api.TRec:
		n.Keys = r.wire.Texts()
		n.L = r.wire.Nums()
	case api.TUnion:
		n.L = r.wire.Nums()
	case api.TVar:
		n.Num = r.wire.Num()
		n.L = []int{r.wire.Num()}
	default:
		r.fail(api.ErrForm)
	}
	return n
}

func (r *reader) arg() api.Arg {
	a := api.Arg{Node: r.wire.Num()}
	a.Types = r.wire.Nums()
	return a
}

func (r *reader) fact() api.Fact {
	f := api.Fact{A: r.wire.Num()}
	f.B = r.wire.Num()
	f.Why = r.numsOrNone()
	return f
}

func (r *reader) use() api.Use {
	u := api.Use{Node: r.wire.Num()}
	u.Part = r.wire.Num()
	u.Fact = r.wire.Num()
	return u
}

func (r *reader) sum() api.Sum {
	s := api.Sum{Module: r.wire.Text()}
	s.Sum = r.wire.Num()
	return s
}

// readAll reads how many elements a list has, and each of them by a function.
func readAll[T any](r *reader, read func(*reader) T) []T {
	n := r.wire.Num()
	if n > api.MaxFacts {
		r.fail(api.ErrLimit)
	}
	var l []T
	for k := 0; k < n && r.first() == api.OK; k++ {
		l = append(l, read(r))
	}
	return l
}

// numsOrNone reads numbers that may be -1.
func (r *reader) numsOrNone() []int {
	l := r.wire.Nums()
	for i := range l {
		l[i]--
	}
	return l
}

// fail notes an error, unless there was one before.
func (r *reader) fail(e api.Errno) { r.err = cmp.Or(r.first(), e) }

// first returns the first error. One that fail notes is ahead of any that comes from reading on.
func (r *reader) first() api.Errno { return cmp.Or(r.err, r.wire.Err()) }

// end returns the first error, which bytes that remain are, too.
func (r *reader) end() api.Errno {
	if r.wire.Left() > 0 {
		r.fail(api.ErrPart)
	}
	return r.first()
}
