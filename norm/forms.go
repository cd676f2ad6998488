package norm

import (
	"lychgate/api"
	"lychgate/pieces"
)

// short, inner and core tell whether c, which is a coercion, is an s, an i, a g of the chapter's normal forms.

func short(c api.Co) bool {
	switch {
	case c.Kind == api.CoId && c.Type.Kind == api.Unknown:
		return true
	case opens(c):
		return inner(c.Kids[1])
	}
	return inner(c)
}

func inner(c api.Co) bool {
	switch {
	case c.Kind == api.CoFail:
		return true
	case closes(c):
		return core(c.Kids[0])
	}
	return core(c)
}

func core(c api.Co) bool {
	switch c.Kind {
	case api.CoId:
		return len(c.Type.Kids) == 0 && c.Type.Kind != api.Unknown
	case api.CoFun, api.CoPair, api.CoSum:
		return short(c.Kids[0]) && short(c.Kids[1])
	}
	return false
}

// opens tells whether c begins with a way out of what is unknown, and closes whether it ends with one into it.

func opens(c api.Co) bool { return c.Kind == api.CoSeq && c.Kids[0].Kind == api.CoOut }

func closes(c api.Co) bool { return c.Kind == api.CoSeq && c.Kids[1].Kind == api.CoIn }

// normal gives the normal form of c. It shares lists with c, and what does not count may be in it.
func normal(c api.Co) api.Co {
	switch c.Kind {
	case api.CoId:
		return identity(c.Type)
	case api.CoFail:
		return c
	case api.CoIn:
		return pieces.Two(api.CoSeq, identity(c.Type), c)
	case api.CoOut:
		return pieces.Two(api.CoSeq, c, identity(c.Type))
	}
	s, t := normal(c.Kids[0]), normal(c.Kids[1])
	if c.Kind == api.CoSeq {
		return then(s, t)
	}
	return pieces.Two(c.Kind, s, t)
}

// identity is the normal form of the CoId of a.
func identity(a api.Type) api.Co {
	if len(a.Kids) == 0 {
		return api.Co{Kind: api.CoId, Type: a}
	}
	return pieces.Over(a.Kind, identity(a.Kids[0]), identity(a.Kids[1]))
}
