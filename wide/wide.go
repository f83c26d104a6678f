// Package wide is layer 1: numbers and texts within texts; see shared/doc/01-wide.md.
package wide

import (
	"strings"

	"dormouse/api"
)

const (
	widest      = 8 // bytes of the widest number
	lengthBytes = 4 // bytes that tell how long a text within a text is
)

// Num lays a number, the lowest byte first.
func Num(n uint64, bytes int) string {
	var b [widest]byte
	for i := range b {
		b[i] = byte(n >> (8 * i))
	}
	return string(b[:min(max(bytes, 0), widest)])
}

// Val reads a number, the lowest byte first.
func Val(s string) uint64 {
	var n uint64
	for i := range min(len(s), widest) {
		n |= uint64(s[i]) << (8 * i)
	}
	return n
}

// Texts lays texts, each behind its length.
func Texts(l ...string) string {
	var b strings.Builder
	lay := layer(&b)
	for _, s := range l {
		lay(Num(uint64(len(s)), lengthBytes), s)
	}
	return b.String()
}

// layer makes the function that lays fields at the end of a text.
func layer(b *strings.Builder) func(fields ...string) {
	return func(fields ...string) {
		for _, f := range fields {
			b.WriteString(f)
		}
	}
}

// Cut is what is left of a text.
type Cut struct {
	left string
	err  api.Errno
}

// On begins to cut a text.
func On(s string) *Cut { return &Cut{left: s} }

// Take takes bytes.
func (c *Cut) Take(n int) string {
	if c == nil {
		return ""
	}
	if n < 0 || n > len(c.left) {
		c.left, c.err = "", api.ErrShort
		return ""
	}
	s := c.left[:n]
	c.left = c.left[n:]
	return s
}

// Num takes a number.
func (c *Cut) Num(bytes int) uint64 {
	if bytes < 1 || bytes > widest {
		bytes = -1 // no number is so wide: Take must fail, however much is left
	}
	return Val(c.Take(bytes))
}

// Text takes a text within a text.
func (c *Cut) Text() string {
	// Where int has 32 bits, a length beyond it comes out below 0, and Take
	// fails, as it ought to: so long a text can't be there.
	return c.Take(int(c.Num(lengthBytes)))
}

// Rest tells what is left.
func (c *Cut) Rest() string {
	if c == nil {
		return ""
	}
	return c.left
}

// Err tells whether there was too little.
func (c *Cut) Err() api.Errno {
	if c == nil {
		return api.ErrNil
	}
	return c.err
}
