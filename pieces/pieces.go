// Package pieces has what several layers ask of a coercion, however great and deep it is: what counts of it, what keeps it from being one, from where to where it goes, and copies of it.
package pieces

import (
	"lychgate/api"
	"lychgate/copies"
)

// The kinds of coercions over two others, each at the kind of the types between which they go; and the other way about.
var (
	overs        = [...]int8{api.Fun: api.CoFun, api.Pair: api.CoPair, api.Sum: api.CoSum}
	constructors = [...]int8{api.CoFun: api.Fun, api.CoPair: api.Pair, api.CoSum: api.Sum}
)

// Two gives the coercion of that kind that has s and t.
func Two(kind int8, s, t api.Co) api.Co { return api.Co{Kind: kind, Kids: []api.Co{s, t}} }

// Over gives the coercion that has s and t, and goes between types of that constructor.
func Over(constructor int8, s, t api.Co) api.Co { return Two(overs[constructor], s, t) }

// Counting gives c with the fields that do not count empty. Its types and kids are still those of c.
func Counting(c api.Co) api.Co {
	own := api.Co{Kind: c.Kind, Kids: c.Kids}
	switch c.Kind {
	case api.CoFail:
		own.To = c.To
		fallthrough
	case api.CoOut:
		own.Label, own.Neg = c.Label, c.Neg
		fallthrough
	case api.CoId, api.CoIn:
		own.Type = c.Type
	}
	return own
}

// Copy gives c, which is one, with lists of its own, and with the fields that do not count empty.
func Copy(c api.Co) api.Co {
	own := Counting(c)
	own.Type, own.To, own.Kids = copies.Type(own.Type), copies.Type(own.To), nil
	for _, kid := range c.Kids {
		own.Kids = append(own.Kids, Copy(kid))
	}
	return own
}
