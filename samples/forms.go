package samples

import "lychgate/api"

// Form is a coercion in normal form (chapter 16) between any two types, so deep within what is unknown, or less.
func (g *Grower) Form(from, to api.Type, depth int) api.Co {
	switch {
	case from.Kind != api.Unknown:
		return g.innerForm(from, to, depth)
	case to.Kind == api.Unknown && (depth <= 0 || g.Intn(3) == 0):
		return CoId(from)
	}
	ground := groundOf(g.known())
	if to.Kind != api.Unknown && g.Intn(3) > 0 {
		ground = groundOf(to)
	}
	return CoNode(api.CoSeq, CoOut(ground, g.Label()), g.innerForm(ground, to, depth-1))
}

// innerForm is one from what is known.
func (g *Grower) innerForm(from, to api.Type, depth int) api.Co {
	switch roll := g.Intn(9); {
	case from.Kind == to.Kind && roll > 0:
		return g.coreForm(from, to, depth)
	case to.Kind == api.Unknown && roll > 0:
		ground := groundOf(from)
		return CoNode(api.CoSeq, g.coreForm(from, ground, depth), CoIn(ground))
	}
	return CoFail(from, to, g.Label())
}

// coreForm is one between two types of one constructor.
func (g *Grower) coreForm(from, to api.Type, depth int) api.Co {
	if len(from.Kids) == 0 {
		return CoId(from)
	}
	return over(from, to, depth, g.Form)
}

// SmallForms are all coercions in normal form between ?, int and bool, of two labels.
func SmallForms() []api.Co {
	grounds, labels := []api.Type{Of(api.Int), Of(api.Bool)}, []int{1, -2}
	all := []api.Co{CoId(Of(api.Unknown))}
	for _, ground := range grounds {
		inner := []api.Co{CoId(ground), CoNode(api.CoSeq, CoId(ground), CoIn(ground))}
		for _, to := range append(grounds, Of(api.Unknown)) {
			for _, p := range labels {
				inner = append(inner, CoFail(ground, to, p))
			}
		}
		all = append(all, inner...)
		for _, p := range labels {
			for _, c := range inner {
				all = append(all, CoNode(api.CoSeq, CoOut(ground, p), c))
			}
		}
	}
	return all
}
