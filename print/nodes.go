package print

import (
	"strconv"

	"armillary/api"
)

const tagMark = "'"

// A format writes a node of a kind.
type format = func(w *writer, n api.Node)

// formats are the formats of the kinds; a kind that no tree has has none.
func formats() [api.EAs + 1]format {
	return [api.EAs + 1]format{
		api.TDyn:   (*writer).keyword,
		api.TNull:  (*writer).keyword,
		api.TBool:  (*writer).keyword,
		api.TInt:   (*writer).keyword,
		api.TTag:   (*writer).tag,
		api.TName:  (*writer).name,
		api.TRec:   (*writer).record,
		api.TUnion: (*writer).union,
		api.EInt:   (*writer).number,
		api.ETag:   (*writer).tag,
		api.ETrue:  (*writer).keyword,
		api.EFalse: (*writer).keyword,
		api.ENull:  (*writer).keyword,
		api.EVar:   (*writer).name,
		api.ERec:   (*writer).record,
		api.EField: (*writer).field,
		api.ECall:  (*writer).call,
		api.EIf:    (*writer).choice,
		api.EIs:    (*writer).test,
		api.ELet:   (*writer).let,
		api.EOp:    (*writer).operation,
		api.EAs:    (*writer).cast,
	}
}

var keywords = [api.EAs + 1]string{
	api.TDyn: "dyn", api.TNull: "null", api.TBool: "bool", api.TInt: "int",
	api.ETrue: "true", api.EFalse: "false", api.ENull: "null",
}

func (w *writer) keyword(n api.Node) { w.put(keywords[n.Kind]) }
func (w *writer) tag(n api.Node)     { w.put(tagMark, n.Name) }
func (w *writer) number(n api.Node)  { w.put(strconv.Itoa(n.Num)) }

// name writes the name of a node, and of its module if it has one.
func (w *writer) name(n api.Node) {
	if n.Mod != "" {
		w.put(n.Mod, "::")
	}
	w.put(n.Name)
}

func (w *writer) record(n api.Node) {
	w.put("{")
	w.list(len(n.Keys), ", ", func(i int) {
		w.put(n.Keys[i], ": ")
		w.child(n, i)
	})
	w.put("}")
}

func (w *writer) union(n api.Node) {
	w.list(len(n.L), " | ", func(i int) { w.child(n, i, api.TUnion) })
}

func (w *writer) field(n api.Node) {
	w.child(n, 0, api.EIf, api.EIs, api.ELet, api.EOp)
	w.put(".", n.Name)
}

func (w *writer) call(n api.Node) {
	types := min(max(n.Num, 0), len(n.L))
	w.name(n)
	if types > 0 {
		w.put("[")
		w.list(types, ", ", func(i int) { w.child(n, i) })
		w.put("]")
	}
	w.put("(")
	w.list(len(n.L)-types, ", ", func(i int) { w.child(n, types+i) })
	w.put(")")
}

func (w *writer) choice(n api.Node) {
	w.children(n, "if ", " then ", " else ")
}

// test needs no parentheses: what is tested is a variable, or a field of one.
func (w *writer) test(n api.Node) {
	w.child(n, 0)
	w.put(" is ", n.Name)
}

func (w *writer) let(n api.Node) {
	w.put("let ", n.Name)
	w.children(n, " = ", " in ")
}

// operation leaves an operation on the left without parentheses, as that is how signs are read that follow each other.
func (w *writer) operation(n api.Node) {
	w.child(n, 0, api.EIf, api.EIs, api.ELet)
	w.put(" ", n.Name, " ")
	w.child(n, 1, api.EIf, api.EIs, api.ELet, api.EOp)
}

func (w *writer) cast(n api.Node) {
	w.children(n, "(", " as ")
	w.put(")")
}
