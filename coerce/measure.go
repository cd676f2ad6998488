package coerce

import (
	"lychgate/api"
	"lychgate/types"
)

// typesOf gives the types of c itself that count, not those of its kids. Of a kind that is none, none does.
func typesOf(c api.Co) []api.Type {
	var l []api.Type
	switch c.Kind {
	case api.CoFail:
		l = append(l, c.To)
		fallthrough
	case api.CoId, api.CoIn, api.CoOut:
		l = append(l, c.Type)
	}
	return l
}

// measure tells how many nodes there are in c, with those of its types, and how deep it is. It is left as soon as there are more than may be: c may be without end.
func measure(c api.Co) (nodes, depth int) {
	var count func(c api.Co, at int)
	count = func(c api.Co, at int) {
		nodes, depth = nodes+1, max(depth, at)
		for _, a := range typesOf(c) {
			nodes, depth = nodes+types.Nodes(a), max(depth, at+types.Depth(a))
		}
		for n := 0; n < len(c.Kids) && nodes <= api.MaxNodes; n++ {
			count(c.Kids[n], at+1)
		}
	}
	count(c, 1)
	return nodes, depth
}
