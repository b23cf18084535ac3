package tree

import (
	"slices"

	"armillary/api"
)

// A stream is the tokens of a text, and what the rules have made of those that are read.
type stream struct {
	words []api.Word
	next  int // the place of the first token that is not read; the end of the text stays unread
	depth int // of the type or expression that is being read
	made  api.Module
}

// A fault is what a rule throws: the text is no module, for the token at an offset.
type fault struct {
	at int
	e  api.Errno
}

// parse reads the whole text; it catches what the rules throw.
func (s *stream) parse() (m api.Module, at int, e api.Errno) {
	defer func() {
		switch f := recover().(type) {
		case nil:
		case fault:
			at, e = f.at, f.e
		default:
			panic(f)
		}
	}()
	s.module()
	return s.made, 0, api.OK
}

func (s *stream) peek() api.Word { return s.words[s.next] }
func (s *stream) last() api.Word { return s.words[s.next-1] }

// fail throws an error at the first token that is not read.
func (s *stream) fail(e api.Errno) { panic(fault{s.peek().At, e}) }

// failBehind throws an error at the last token that is read.
func (s *stream) failBehind(e api.Errno) { panic(fault{s.last().At, e}) }

// has tells whether the next token is of a kind.
func (s *stream) has(kind int) bool { return s.peek().Kind == kind }

// sees tells whether the next token is a keyword or a sign; a tag may have the same Text.
func (s *stream) sees(text string) bool {
	return s.peek().Text == text && (s.has(api.WordKey) || s.has(api.WordSign))
}

// take reads a keyword or a sign, if it is the next token.
func (s *stream) take(text string) bool {
	if !s.sees(text) {
		return false
	}
	s.next++
	return true
}

// need reads a keyword or a sign, which must be the next token.
func (s *stream) need(text string) {
	if !s.take(text) {
		s.fail(api.ErrSyntax)
	}
}

// word reads the next token, which must be of a kind.
func (s *stream) word(kind int) api.Word {
	if !s.has(kind) {
		s.fail(api.ErrSyntax)
	}
	s.next++
	return s.last()
}

func (s *stream) name() string     { return s.word(api.WordName).Text }
func (s *stream) typeName() string { return s.word(api.WordType).Text }

// fresh reads a name by a rule; it must be none of the earlier ones.
func (s *stream) fresh(name func() string, earlier []string) string {
	x := name()
	if slices.Contains(earlier, x) {
		s.failBehind(api.ErrSyntax)
	}
	return x
}

// behind reads a keyword or a sign, and what a rule reads behind it.
func (s *stream) behind(text string, rule func() int) int {
	s.need(text)
	return rule()
}

// room fails at the next token, which begins another item, if there are as many as there may be.
func (s *stream) room(items, most int) {
	if items >= most {
		s.fail(api.ErrLimit)
	}
}

// list reads one or more items with signs between them. The limit is judged ahead of the item, as it precedes what the item's rule says of the token.
func (s *stream) list(sign string, item func() int) []int {
	l := []int{item()}
	for s.take(sign) {
		s.room(len(l), api.MaxParts)
		l = append(l, item())
	}
	return l
}

// named reads a list of items that have a name and a sign ahead of what a rule reads.
func (s *stream) named(name func() string, sign string, rule func() int) (names []string, l []int) {
	l = s.list(",", func() int {
		names = append(names, s.fresh(name, names))
		return s.behind(sign, rule)
	})
	return names, l
}

// deeper reads a type or an expression, one deeper than what contains it.
func (s *stream) deeper(rule func() int) int {
	if s.depth == api.MaxDepth {
		s.fail(api.ErrDeep)
	}
	s.depth++
	n := rule()
	s.depth--
	return n
}

// add stores a node that has ended with the last token that is read, and returns its place.
func (s *stream) add(n api.Node) int {
	if len(s.made.Nodes) == api.MaxNodes {
		s.failBehind(api.ErrLimit)
	}
	s.made.Nodes = append(s.made.Nodes, n)
	return len(s.made.Nodes) - 1
}
