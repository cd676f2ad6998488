package pieces

import (
	"lychgate/api"
	"lychgate/types"
)

// Labels of coercions go from 1 to maxLabel.
const maxLabel = 1 << 31

// Label tells whether a coercion may have the label n. It compares 64 bits, as an int may have 32.
func Label(n int) bool { return 1 <= n && int64(n) <= maxLabel }

// Ends tells from where to where c goes, by types that share lists with it; false, if a rule does not hold in it. It does not end where c is without end.
func Ends(c api.Co) (from, to api.Type, ok bool) {
	if !formed(c) {
		return api.Type{}, api.Type{}, false
	}
	switch c.Kind {
	case api.CoId:
		return c.Type, c.Type, true
	case api.CoFail:
		return c.Type, c.To, true
	case api.CoIn:
		return c.Type, api.Type{Kind: api.Unknown}, true
	case api.CoOut:
		return api.Type{Kind: api.Unknown}, c.Type, true
	}
	return endsOfTwo(c)
}

// endsOfTwo is Ends of what has two kids.
func endsOfTwo(c api.Co) (from, to api.Type, ok bool) {
	fromFirst, toFirst, ok := Ends(c.Kids[0])
	if !ok {
		return api.Type{}, api.Type{}, false
	}
	fromSecond, toSecond, ok := Ends(c.Kids[1])
	if !ok {
		return api.Type{}, api.Type{}, false
	}
	switch c.Kind {
	case api.CoSeq:
		if !types.Same(toFirst, fromSecond) {
			return api.Type{}, api.Type{}, false
		}
		return fromFirst, toSecond, true
	case api.CoFun: // an argument goes the other way
		fromFirst, toFirst = toFirst, fromFirst
	}
	kind := constructors[c.Kind]
	return api.Type{Kind: kind, Kids: []api.Type{fromFirst, fromSecond}}, api.Type{Kind: kind, Kids: []api.Type{toFirst, toSecond}}, true
}

// formed tells whether c has what its kind asks for, whatever its kids are.
func formed(c api.Co) bool {
	switch c.Kind {
	case api.CoFun, api.CoPair, api.CoSum, api.CoSeq:
		return len(c.Kids) == 2
	case api.CoOut:
		if !Label(c.Label) {
			return false
		}
		fallthrough
	case api.CoIn:
		return len(c.Kids) == 0 && ground(c.Type)
	case api.CoFail:
		if !Label(c.Label) || c.Type.Kind == api.Unknown || !typed(c.To) {
			return false
		}
		fallthrough
	case api.CoId:
		return len(c.Kids) == 0 && typed(c.Type)
	}
	return false
}

func typed(a api.Type) bool { return types.Check(a) == api.OK }

func ground(a api.Type) bool {
	own, ok := types.Ground(a)
	return ok && types.Same(a, own)
}
