package lex

import (
	"strings"

	"armillary/api"
)

// A cursor goes through a text byte by byte; its tests tell of what sort the byte at its place is.
type cursor struct {
	text string
	at   int
}

func (c *cursor) ended() bool { return c.at == len(c.text) }

// within tells whether there is a byte, and it is in a range.
func (c *cursor) within(first, last byte) bool {
	return !c.ended() && first <= c.text[c.at] && c.text[c.at] <= last
}

func (c *cursor) is(b byte) bool  { return c.within(b, b) }
func (c *cursor) small() bool     { return c.within('a', 'z') }
func (c *cursor) great() bool     { return c.within('A', 'Z') }
func (c *cursor) digit() bool     { return c.within('0', '9') }
func (c *cursor) blank() bool     { return c.is(' ') || c.is('\n') }
func (c *cursor) inComment() bool { return !c.is('\n') }
func (c *cursor) inType() bool    { return c.small() || c.great() || c.digit() }
func (c *cursor) inName() bool    { return c.small() || c.digit() || c.is('_') }
func (c *cursor) inRun() bool     { return c.inName() || c.great() }

// skip goes on as long as a test accepts the byte, at most to the end.
func (c *cursor) skip(test func() bool) {
	for !c.ended() && test() {
		c.at++
	}
}

// skipGap goes on behind blanks and comments.
func (c *cursor) skipGap() {
	c.skip(c.blank)
	for c.is('#') {
		c.skip(c.inComment)
		c.skip(c.blank)
	}
}

// since returns the bytes from a place up to the cursor, copied: what is told of a text must not keep it.
func (c *cursor) since(from int) string { return strings.Clone(c.text[from:c.at]) }

// whole tells whether the text is 1 to MaxWord bytes, of which the first one passes a test and the others another one.
func (c *cursor) whole(first, others func() bool) bool {
	if len(c.text) > api.MaxWord || !first() {
		return false
	}
	c.at++
	c.skip(others)
	return c.ended()
}
