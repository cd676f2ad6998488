package types

import (
	"strings"

	"lychgate/api"
)

// Text gives the words of a, with as few brackets as can be.
func Text(a api.Type) (string, api.Errno) {
	if e := Check(a); e != api.OK {
		return "", e
	}
	var b strings.Builder
	write(&b, a, loosest)
	return b.String(), api.OK
}

// write puts a where what stands without brackets binds at least as tightly as least.
func write(b *strings.Builder, a api.Type, least int) {
	s := shapes[a.Kind]
	if s.parts == 0 {
		b.WriteString(s.word)
		return
	}
	if s.binds < least {
		b.WriteString("(")
		defer b.WriteString(")")
	}
	left, right := needs(a.Kind)
	write(b, a.Kids[0], left)
	b.WriteString(" " + s.word + " ")
	write(b, a.Kids[1], right)
}
