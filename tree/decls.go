package tree

import (
	"armillary/api"
)

// The rules of modules, declarations and types. A rule of a type or an expression returns the place of its node.

func (s *stream) module() {
	s.need("module")
	s.made.Name = s.name()
	for s.take("import") {
		s.room(len(s.made.Imports), api.MaxParts)
		s.made.Imports = append(s.made.Imports, s.fresh(s.name, s.made.Imports))
	}
	for s.sees("type") {
		s.room(len(s.made.Types), api.MaxDecls)
		s.made.Types = append(s.made.Types, s.decl())
	}
	for s.sees("fn") {
		s.room(len(s.made.Fns), api.MaxDecls)
		s.made.Fns = append(s.made.Fns, s.fn())
	}
	if !s.has(api.WordEnd) {
		s.fail(api.ErrSyntax)
	}
}

func (s *stream) decl() api.Decl {
	s.need("type")
	return api.Decl{Name: s.typeName(), Type: s.behind("=", s.aType)}
}

func (s *stream) fn() (f api.Fn) {
	s.need("fn")
	f.Name = s.name()
	if s.take("[") {
		f.Vars = vars(s.named(s.typeName, "<:", s.aType))
		s.need("]")
	}
	s.need("(")
	if !s.sees(")") {
		f.Params = vars(s.named(s.name, ":", s.aType))
	}
	s.need(")")
	f.Ret = s.behind(":", s.aType)
	f.Body = s.behind("=", s.expr)
	return f
}

func vars(names []string, l []int) (v []api.Var) {
	for i, name := range names {
		v = append(v, api.Var{Name: name, Type: l[i]})
	}
	return v
}

// aType is the grammar's rule type.
func (s *stream) aType() int { return s.deeper(s.union) }

// union reads the parts of a type; a single one is the type itself.
func (s *stream) union() int {
	l := s.list("|", s.part)
	if len(l) == 1 {
		return l[0]
	}
	return s.add(api.Node{Kind: api.TUnion, L: l})
}

func (s *stream) part() int {
	switch {
	case s.has(api.WordTag):
		return s.add(api.Node{Kind: api.TTag, Name: s.word(api.WordTag).Text})
	case s.has(api.WordType):
		return s.add(api.Node{Kind: api.TName, Name: s.typeName()})
	case s.has(api.WordName):
		mod := s.name()
		s.need("::")
		return s.add(api.Node{Kind: api.TName, Mod: mod, Name: s.typeName()})
	case s.sees("{"):
		return s.record(api.TRec, s.aType)
	case s.sees("("):
		n := s.behind("(", s.aType)
		s.need(")")
		return n
	}
	return s.keyword(typeKind)
}

// typeKind returns the kind of the type that a keyword is, 0 if it is none.
func typeKind(key string) int {
	switch key {
	case "dyn":
		return api.TDyn
	case "null":
		return api.TNull
	case "bool":
		return api.TBool
	case "int":
		return api.TInt
	}
	return 0
}

// keyword reads one that is a type or an expression by itself; kind tells of which kind, or 0.
func (s *stream) keyword(kind func(key string) int) int {
	k := kind(s.peek().Text)
	if k == 0 {
		s.fail(api.ErrSyntax)
	}
	s.word(api.WordKey)
	return s.add(api.Node{Kind: k})
}

// record reads a record type, or a record, the fields of which are read by a rule.
func (s *stream) record(kind int, field func() int) int {
	n := api.Node{Kind: kind}
	s.need("{")
	if !s.sees("}") {
		n.Keys, n.L = s.named(s.name, ":", field)
	}
	s.need("}")
	return s.add(n)
}
