// Package copies has what the layers copy types by: what they answer shares no list with what they were handed, nor with itself.
package copies

import (
	"lychgate/api"
	"lychgate/types"
)

// Type gives a with lists of its own; the zero type, if a is none.
func Type(a api.Type) api.Type {
	if types.Check(a) != api.OK {
		return api.Type{}
	}
	return copied(a)
}

func copied(a api.Type) api.Type {
	c := api.Type{Kind: a.Kind}
	for _, kid := range a.Kids {
		c.Kids = append(c.Kids, copied(kid))
	}
	return c
}
