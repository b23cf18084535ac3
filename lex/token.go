package lex

import (
	"armillary/api"
)

// token reads the token at the cursor; where there is none, the word that is returned tells the offset alone.
func (c *cursor) token() (w api.Word, ok bool) {
	from := c.at
	switch {
	case c.ended():
		w, ok = api.Word{Kind: api.WordEnd}, true
	case c.is(tagMark[0]):
		w, ok = c.tag()
	case c.inRun():
		w, ok = c.run()
	default:
		w, ok = c.sign()
	}
	w.At = from
	return w, ok
}

// tag reads a tag.
func (c *cursor) tag() (w api.Word, ok bool) {
	c.at += len(tagMark)
	from := c.at
	c.skip(c.inRun)
	s := c.since(from)
	if !nameOrKey(s) {
		return api.Word{}, false
	}
	return api.Word{Kind: api.WordTag, Text: s}, true
}

// run reads a keyword, a name, a type name or a number: all have in common which characters belong to them.
func (c *cursor) run() (w api.Word, ok bool) {
	from := c.at
	c.skip(c.inRun)
	s := c.since(from)
	switch {
	case IsKey(s):
		return api.Word{Kind: api.WordKey, Text: s}, true
	case IsName(s):
		return api.Word{Kind: api.WordName, Text: s}, true
	case IsType(s):
		return api.Word{Kind: api.WordType, Text: s}, true
	}
	n, ok := number(s)
	if !ok {
		return api.Word{}, false
	}
	return api.Word{Kind: api.WordNum, Text: s, Num: n}, true
}

// number returns the value of s, which is not empty, if it is a number of the language.
func number(s string) (n int, ok bool) {
	if len(s) > 1 && s[0] == '0' {
		return 0, false
	}
	c := &cursor{text: s}
	for c.digit() {
		n = 10*n + int(s[c.at]-'0')
		if n > api.MaxInt {
			return 0, false
		}
		c.at++
	}
	if !c.ended() {
		return 0, false
	}
	return n, true
}

// sign reads a sign, the longest one that begins here.
func (c *cursor) sign() (w api.Word, ok bool) {
	from := c.at
	c.at += signLen(c.text[from:])
	if c.at == from {
		return api.Word{}, false
	}
	return api.Word{Kind: api.WordSign, Text: c.since(from)}, true
}

// signLen returns how many bytes the sign has with which s begins; 0 if there is none.
func signLen(s string) int {
	switch s[:min(len(s), 2)] {
	case "::", "==", "<:":
		return 2
	}
	switch s[0] {
	case '|', '{', '}', '(', ')', '[', ']', ',', ':', '.', '=', '+', '<':
		return 1
	}
	return 0
}
