package tree

import (
	"armillary/api"
)

const tagMark = "'"

// The rules of expressions. Where a literal calls several rules, Go calls them from the left, which is the order of the tokens.

func (s *stream) expr() int { return s.deeper(s.letOrIf) }

func (s *stream) letOrIf() int {
	switch {
	case s.take("let"):
		return s.add(api.Node{Kind: api.ELet, Name: s.name(), L: []int{s.behind("=", s.expr), s.behind("in", s.expr)}})
	case s.take("if"):
		return s.add(api.Node{Kind: api.EIf, L: []int{s.expr(), s.behind("then", s.expr), s.behind("else", s.expr)}})
	}
	return s.test()
}

// test reads a sum, and whether it is tested for a shape.
func (s *stream) test() int {
	n := s.sum()
	if !s.sees("is") {
		return n
	}
	if !s.testable(n) {
		s.fail(api.ErrSyntax)
	}
	s.need("is")
	return s.add(api.Node{Kind: api.EIs, Name: s.shape(), L: []int{n}})
}

// testable tells whether a node is a variable, or a field of one.
func (s *stream) testable(n int) bool {
	x := s.made.Nodes[n]
	if x.Kind == api.EField {
		x = s.made.Nodes[x.L[0]]
	}
	return x.Kind == api.EVar
}

func (s *stream) shape() string {
	switch {
	case s.has(api.WordTag):
		return tagMark + s.word(api.WordTag).Text
	case s.take("null"), s.take("bool"), s.take("int"), s.take("rec"):
		return s.last().Text
	}
	s.fail(api.ErrSyntax)
	return ""
}

func (s *stream) sum() int {
	n := s.prim()
	for s.take("+") || s.take("<") || s.take("==") {
		sign, left := s.last().Text, n
		n = s.add(api.Node{Kind: api.EOp, Name: sign, L: []int{left, s.prim()}})
	}
	return n
}

func (s *stream) prim() int {
	n := s.atom()
	for s.take(".") {
		n = s.add(api.Node{Kind: api.EField, Name: s.name(), L: []int{n}})
	}
	return n
}

func (s *stream) atom() int {
	switch {
	case s.has(api.WordNum):
		return s.add(api.Node{Kind: api.EInt, Num: s.word(api.WordNum).Num})
	case s.has(api.WordTag):
		return s.add(api.Node{Kind: api.ETag, Name: s.word(api.WordTag).Text})
	case s.has(api.WordName):
		return s.varOrCall()
	case s.sees("{"):
		return s.record(api.ERec, s.expr)
	case s.sees("("):
		return s.enclosed()
	}
	return s.keyword(constantKind)
}

// constantKind returns the kind of the expression that a keyword is, 0 if it is none.
func constantKind(key string) int {
	switch key {
	case "true":
		return api.ETrue
	case "false":
		return api.EFalse
	case "null":
		return api.ENull
	}
	return 0
}

// enclosed reads an expression in parentheses, and the type as which it is to be taken, if there is one.
func (s *stream) enclosed() int {
	n := s.behind("(", s.expr)
	if !s.sees("as") {
		s.need(")")
		return n
	}
	t := s.behind("as", s.aType)
	s.need(")")
	return s.add(api.Node{Kind: api.EAs, L: []int{n, t}})
}

// varOrCall reads a name, and the call if what follows shows that it is one.
func (s *stream) varOrCall() int {
	name := s.name()
	switch {
	case s.take("::"):
		return s.call(name, s.name())
	case s.sees("["), s.sees("("):
		return s.call("", name)
	}
	return s.add(api.Node{Kind: api.EVar, Name: name})
}

// call reads the types and the arguments of a call.
func (s *stream) call(mod, name string) int {
	n := api.Node{Kind: api.ECall, Mod: mod, Name: name}
	if s.take("[") {
		n.L = s.list(",", s.aType)
		n.Num = len(n.L)
		s.need("]")
	}
	s.need("(")
	if !s.sees(")") {
		n.L = append(n.L, s.list(",", s.expr)...)
	}
	s.need(")")
	return s.add(n)
}
