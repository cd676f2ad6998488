package norm

import (
	"lychgate/api"
	"lychgate/pieces"
)

// then gives a and then b, both in normal form, a going to where b goes from. The first line that speaks of them tells, so each stands on what the ones above it have left.
func then(a, b api.Co) api.Co {
	switch {
	case a.Kind == api.CoId && a.Type.Kind == api.Unknown:
		return b
	case opens(a):
		return pieces.Two(api.CoSeq, a.Kids[0], then(a.Kids[1], b))
	case a.Kind == api.CoFail:
		return fail(a, b, a)
	case closes(a) && b.Kind == api.CoId:
		return a
	case closes(a) && a.Kids[1].Type.Kind == b.Kids[0].Type.Kind: // one ground, that of the kind
		return then(a.Kids[0], b.Kids[1])
	case closes(a):
		return fail(a, b, b.Kids[0])
	case b.Kind == api.CoFail:
		return fail(a, b, b)
	case closes(b):
		return pieces.Two(api.CoSeq, then(a, b.Kids[0]), b.Kids[1])
	case a.Kind == api.CoId:
		return a
	case a.Kind == api.CoFun: // an argument goes the other way
		return pieces.Two(a.Kind, then(b.Kids[0], a.Kids[0]), then(a.Kids[1], b.Kids[1]))
	}
	return pieces.Two(a.Kind, then(a.Kids[0], b.Kids[0]), then(a.Kids[1], b.Kids[1]))
}

// fail is a CoFail with the label of p, in the place of a and then b.
func fail(a, b, p api.Co) api.Co {
	from, _, _ := pieces.Ends(a)
	_, to, _ := pieces.Ends(b)
	return api.Co{Kind: api.CoFail, Type: from, To: to, Label: p.Label, Neg: p.Neg}
}
