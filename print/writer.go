package print

import (
	"slices"
	"strings"

	"armillary/api"
)

// A writer builds the text of a module, or of a part of it. The module is ordered, but what else it holds need not be as a parser makes it.
type writer struct {
	strings.Builder
	m       api.Module
	most    int // when the text has more bytes than this, nothing is added to it
	formats [api.EAs + 1]format
}

func newWriter(m api.Module, most int) *writer {
	return &writer{m: m, most: most, formats: formats()}
}

// put adds pieces to the text. A module that is handed in may have names of any length, any number of times: what is too long to be parsed is not continued.
func (w *writer) put(pieces ...string) {
	for _, s := range pieces {
		if w.Len() <= w.most {
			w.WriteString(s)
		}
	}
}

// list writes as many items as told, with a sign between them.
func (w *writer) list(items int, sign string, item func(i int)) {
	for i := range items {
		if i > 0 {
			w.put(sign)
		}
		item(i)
	}
}

func (w *writer) module() {
	w.put("module ", w.m.Name, "\n")
	for _, name := range w.m.Imports {
		w.put("import ", name, "\n")
	}
	for _, d := range w.m.Types {
		w.put("type ", d.Name, " = ")
		w.node(d.Type)
		w.put("\n")
	}
	for _, f := range w.m.Fns {
		w.fn(f)
		w.put("\n")
	}
}

func (w *writer) fn(f api.Fn) {
	w.put("fn ", f.Name)
	if len(f.Vars) > 0 {
		w.put("[")
		w.vars(f.Vars, " <: ")
		w.put("]")
	}
	w.put("(")
	w.vars(f.Params, ": ")
	w.put("): ")
	w.node(f.Ret)
	w.put(" = ")
	w.node(f.Body)
}

// vars writes parameters, or type parameters.
func (w *writer) vars(l []api.Var, sign string) {
	w.list(len(l), ", ", func(i int) {
		w.put(l[i].Name, sign)
		w.node(l[i].Type)
	})
}

// node writes a type or an expression; nothing if it has a kind that no tree has.
func (w *writer) node(n int) {
	x := w.m.Nodes[n]
	if x.Kind < 0 || x.Kind >= len(w.formats) || w.formats[x.Kind] == nil {
		return
	}
	w.formats[x.Kind](w, x)
}

// child writes a child of a node, in parentheses if it is of one of the kinds; nothing if the node lacks that child.
func (w *writer) child(n api.Node, i int, enclosed ...int) {
	if i >= len(n.L) {
		return
	}
	if !slices.Contains(enclosed, w.m.Nodes[n.L[i]].Kind) {
		w.node(n.L[i])
		return
	}
	w.put("(")
	w.node(n.L[i])
	w.put(")")
}

// children writes the first children of a node, each one behind a piece of text.
func (w *writer) children(n api.Node, ahead ...string) {
	for i, s := range ahead {
		w.put(s)
		w.child(n, i)
	}
}
