package samples

import (
	"slices"
	"strconv"
	"strings"

	"lychgate/api"
	"lychgate/types"
)

// CoNode is a coercion that has no types and no label.
func CoNode(kind int8, kids ...api.Co) api.Co { return api.Co{Kind: kind, Kids: kids} }

// CoId is a CoId.
func CoId(a api.Type) api.Co { return api.Co{Kind: api.CoId, Type: a} }

// CoIn is a CoIn.
func CoIn(ground api.Type) api.Co { return api.Co{Kind: api.CoIn, Type: ground} }

// CoOut is a CoOut, of p above 0, or of its other side.
func CoOut(ground api.Type, p int) api.Co {
	return api.Co{Kind: api.CoOut, Type: ground, Label: max(p, -p), Neg: p < 0}
}

// CoFail is a CoFail, of p above 0, or of its other side.
func CoFail(from, to api.Type, p int) api.Co {
	return api.Co{Kind: api.CoFail, Type: from, To: to, Label: max(p, -p), Neg: p < 0}
}

// Coercion is the coercion that a text tells, as chapter 15 writes them; a ; b ; c is a and then b ; c.
func Coercion(text string) api.Co {
	r := coReader(strings.Fields(text))
	c := r.all()
	if len(r) > 0 {
		panic(text)
	}
	return c
}

// A coReader is what is left of the words of a coercion.
type coReader []string

func (r *coReader) next() string {
	w := (*r)[0]
	*r = (*r)[1:]
	return w
}

func (r *coReader) all() api.Co {
	c := r.one()
	if len(*r) > 0 && (*r)[0] == ";" {
		r.next()
		return CoNode(api.CoSeq, c, r.all())
	}
	return c
}

func (r *coReader) one() api.Co {
	switch (*r)[0] {
	case "id":
		r.next()
		return CoId(r.braced())
	case "fail":
		r.next()
		return CoFail(r.braced(), r.braced(), r.label())
	case "(":
		r.next()
		s, sign, t := r.all(), r.next(), r.all()
		r.next()
		return CoNode(map[string]int8{"->": api.CoFun, "*": api.CoPair, "+": api.CoSum}[sign], s, t)
	}
	ground := r.braced()
	if r.next() == "!" {
		return CoIn(ground)
	}
	return CoOut(ground, r.label())
}

func (r *coReader) braced() api.Type {
	end := slices.Index(*r, "}")
	a := Type(strings.Join((*r)[1:end], " "))
	*r = (*r)[end+1:]
	return a
}

func (r *coReader) label() int {
	n, err := strconv.Atoi(r.next())
	if err != nil {
		panic(err)
	}
	return n
}

// CoOver is c with each of its kids changed.
func CoOver(c api.Co, change func(api.Co) api.Co) api.Co {
	kids := c.Kids
	c.Kids = nil
	for _, kid := range kids {
		c.Kids = append(c.Kids, change(kid))
	}
	return c
}

// CoAll is c, and all coercions within it, each ahead of its kids.
func CoAll(c api.Co) []api.Co {
	all := []api.Co{c}
	for _, kid := range c.Kids {
		all = append(all, CoAll(kid)...)
	}
	return all
}

// CoAround are c, and the coercions in which it stands as each kid of each kind that has some.
func CoAround(c api.Co) []api.Co {
	all, other := []api.Co{c}, CoId(Of(api.Int))
	for _, kind := range []int8{api.CoFun, api.CoPair, api.CoSum, api.CoSeq} {
		all = append(all, CoNode(kind, c, other), CoNode(kind, other, c))
	}
	return all
}

// CoTypeLists are the places at which the lists of the types in c lie, CoLists those at which its lists of kids lie, each as often as it is in it.
func CoTypeLists(c api.Co) []*api.Type {
	var all []*api.Type
	for _, piece := range CoAll(c) {
		all = slices.Concat(all, Lists(piece.Type), Lists(piece.To))
	}
	return all
}

// CoLists: see CoTypeLists.
func CoLists(c api.Co) []*api.Co {
	var all []*api.Co
	for _, piece := range CoAll(c) {
		if len(piece.Kids) > 0 {
			all = append(all, &piece.Kids[0])
		}
	}
	return all
}

// CoExactly tells whether c and d are the same in all fields, in those that do not count too.
func CoExactly(c, d api.Co) bool {
	return c.Kind == d.Kind && c.Label == d.Label && c.Neg == d.Neg &&
		types.Same(c.Type, d.Type) && types.Same(c.To, d.To) && slices.EqualFunc(c.Kids, d.Kids, CoExactly)
}

// CoLittered is c, with something in all that does not count.
func CoLittered(c api.Co) api.Co {
	if c.Kind != api.CoFail {
		c.To = Endless(api.Fun)
	}
	if c.Kind >= api.CoFun {
		c.Type = Of(99)
	}
	if c.Kind != api.CoFail && c.Kind != api.CoOut {
		c.Label, c.Neg = -3, !c.Neg
	}
	return CoOver(c, CoLittered)
}

// Coercion is one between any two types, of pieces that lie at most so deep within one another, or a few more.
func (g *Grower) Coercion(from, to api.Type, depth int) api.Co {
	if c, ok := g.coercion(from, to, depth); ok {
		return c
	}
	if from.Kind != api.Unknown {
		return CoFail(from, to, g.Label())
	}
	if ground, ok := types.Ground(to); ok && types.Same(ground, to) && g.Intn(2) == 0 {
		return CoOut(to, g.Label())
	}
	ground := groundOf(g.known())
	return CoNode(api.CoSeq, CoOut(ground, g.Label()), g.Coercion(ground, to, depth-1))
}

// coercion is one of a sort that the dice tell; false, if none of it goes there.
func (g *Grower) coercion(from, to api.Type, depth int) (c api.Co, ok bool) {
	ground, known := types.Ground(from)
	switch roll := g.Intn(6); {
	case types.Same(from, to) && (depth <= 0 || roll == 0):
		return CoId(from), true
	case to.Kind == api.Unknown && known && types.Same(from, ground) && roll < 4:
		return CoIn(from), true
	case depth > 0 && from.Kind == to.Kind && len(from.Kids) > 0 && roll < 4:
		return over(from, to, depth-1, g.Coercion), true
	case depth > 0 && roll < 5:
		middle := One(g, from, to, Of(api.Unknown), g.SomeType(2), g.Agreeing(from))
		return CoNode(api.CoSeq, g.Coercion(from, middle, depth-1), g.Coercion(middle, to, depth-1)), true
	}
	return api.Co{}, false
}

// over is a coercion of two others, between two types of one constructor.
func over(from, to api.Type, depth int, grown func(from, to api.Type, depth int) api.Co) api.Co {
	a, b, kind := from.Kids[0], to.Kids[0], int8(api.CoPair)
	switch from.Kind {
	case api.Fun:
		a, b, kind = b, a, api.CoFun
	case api.Sum:
		kind = api.CoSum
	}
	return CoNode(kind, grown(a, b, depth), grown(from.Kids[1], to.Kids[1], depth))
}

func groundOf(a api.Type) api.Type {
	return Spread(a, func(api.Type) api.Type { return Of(api.Unknown) })
}

// known is a type that is not ?.
func (g *Grower) known() api.Type {
	for {
		if a := g.SomeType(2); a.Kind != api.Unknown {
			return a
		}
	}
}

// CoSpoilt is c with something changed here and there; now and then it is none, then.
func (g *Grower) CoSpoilt(c api.Co) api.Co {
	if g.Intn(12) == 0 {
		c = g.spoiltPiece(c)
	}
	return CoOver(c, g.CoSpoilt)
}

func (g *Grower) spoiltPiece(c api.Co) api.Co {
	switch g.Intn(9) {
	case 0:
		c.Kind = One[int8](g, 0, 1, 2, 3, 4, 5, 6, 7, 8, -1)
	case 1:
		c.Label = One(g, 0, 1, 2, -1, 1<<31, 1<<31+1)
	case 2:
		c.Neg = !c.Neg
	case 3:
		c.Type = One(g, Of(api.Unknown), Of(api.Int), g.Opened(c.Type), g.Spoilt(c.Type), Of(9), Of(api.Fun))
	case 4:
		c.To = One(g, Of(api.Unknown), Of(api.Int), g.Opened(c.To), g.Spoilt(c.To), Of(-9), Of(api.Int, c.To))
	case 5:
		c.Kids = append(slices.Clone(c.Kids), c)
	case 6:
		c.Kids = c.Kids[:len(c.Kids)/2]
	case 7:
		c.Kids = slices.Clone(c.Kids)
		slices.Reverse(c.Kids)
	case 8:
		c = CoNode(api.CoSeq, c, c)
	}
	return c
}

// NoCos are no coercions, with what coerce.Check tells of each. Some have no end.
func NoCos() map[api.Errno][]api.Co {
	integer := CoId(Of(api.Int))
	within := make([]api.Co, 2)
	within[0], within[1] = integer, CoNode(api.CoPair, within...)
	kids := make([]api.Co, 1)
	kids[0] = CoNode(99, kids...)
	return map[api.Errno][]api.Co{
		api.ErrCoerce: append(noRules(), manyCos(api.CoPair, 196, CoId(Of(api.Int, Of(api.Int)))), onlyCos(99, 199), onlyCos(api.CoFun, 199)),
		api.ErrTooDeep: {
			onlyCos(99, 201), onlyCos(api.CoFun, 201), manyCos(api.CoFun, 199, integer), manyCos(api.CoSeq, 199, integer), manyCos(99, 199, integer), manyCos(api.CoSeq, 200, api.Co{Kind: 99}), CoId(Chain(api.Fun, 200, true, Of(api.Int))), CoIn(Chain(api.Pair, 4000, false, Of(api.Int))),
			CoOut(Chain(api.Sum, 200, true, Of(api.Int)), 0), CoFail(Chain(api.Sum, 200, true, Of(api.Int)), Of(api.Int), 1), CoFail(Of(api.Unknown), Chain(api.Sum, 200, true, Of(api.Int)), 1), manyCos(api.CoFun, 100, CoId(Chain(api.Fun, 100, true, Of(api.Int)))),
		},
		api.ErrTooBig: {
			within[1], kids[0], doubledCo(12, integer), doubledCo(13, api.Co{Kind: 99}), doubledCo(50, integer), {Kind: api.CoId, Kids: make([]api.Co, 1<<20)}, {Kind: 99, Kids: make([]api.Co, api.MaxNodes)}, {Kind: api.CoPair, Kids: make([]api.Co, api.MaxNodes/2)},
			CoId(Endless(api.Fun)), CoIn(Endless(99)), CoOut(Endless(api.Sum), 0), CoFail(Of(api.Int), Endless(api.Fun), 1), CoFail(Endless(api.Fun), Of(api.Int), 1), CoNode(api.CoPair, CoId(Balanced(api.Fun, 2048, Of(api.Int))), CoId(Balanced(api.Sum, 2048, Of(api.Int)))), CoId(Full(api.Fun, 40, Of(api.Int))),
		},
	}
}

// noRules are neither too great nor too deep.
func noRules() []api.Co {
	open, integer, fun := Of(api.Unknown), Of(api.Int), Type("? -> ?")
	a, in, out := CoId(integer), CoIn(integer), CoOut(integer, 1)
	with := func(c api.Co, kids ...api.Co) api.Co { c.Kids = kids; return c }
	label := func(c api.Co, n int) api.Co { c.Label = n; return c }
	return []api.Co{
		{Kind: 8}, {Kind: -1}, {Kind: 127}, {Kind: -128}, {Kind: 8, Kids: []api.Co{a, a}}, with(a, a), with(a, a, a), with(in, a), with(out, a, a), with(CoFail(integer, open, 1), a),
		CoNode(api.CoFun), CoNode(api.CoPair, a), CoNode(api.CoSum, a, a, a), CoNode(api.CoSeq), CoNode(api.CoSeq, a), CoNode(api.CoSeq, a, a, a),
		label(out, 0), label(out, -1), label(out, 1<<31+1), label(CoFail(integer, integer, 1), 0), label(CoFail(integer, integer, 1), -1<<31), label(CoFail(integer, open, 1), 1<<31+1),
		CoId(Of(6)), CoId(Of(-1)), CoId(Of(api.Fun)), CoId(Of(api.Int, integer)), CoId(Of(api.Pair, integer, Of(99))), CoFail(Of(6), integer, 1), CoFail(integer, Of(6), 1), CoFail(integer, Of(api.Sum, integer), 1), CoFail(Of(api.Fun), integer, 1),
		CoIn(Of(6)), CoIn(open), CoIn(Of(api.Fun, integer, open)), CoIn(Of(api.Pair, open, integer)), CoIn(Of(api.Sum, fun, open)), CoIn(Of(api.Fun, open)), CoOut(open, 1), CoOut(Of(-1), 1), CoOut(Of(api.Fun, open, integer), 1), CoOut(Of(api.Int, open), 1),
		CoFail(open, integer, 1), CoFail(open, open, 1), CoNode(api.CoSeq, in, in), CoNode(api.CoSeq, out, out), CoNode(api.CoSeq, a, CoId(Of(api.Bool))), CoNode(api.CoSeq, CoFail(integer, fun, 1), CoId(Type("? -> int"))),
		CoNode(api.CoPair, a, CoNode(api.CoSeq, in, a)), CoNode(api.CoFun, api.Co{Kind: 9}, a),
	}
}

// manyCos are so many coercions of that kind within one another, around c.
func manyCos(kind int8, n int, c api.Co) api.Co {
	for range n {
		c = CoNode(kind, CoId(Of(api.Int)), c)
	}
	return c
}

// onlyCos are so many of that kind, each the only kid of another.
func onlyCos(kind int8, n int) api.Co {
	c := api.Co{Kind: kind}
	for range n - 1 {
		c = CoNode(kind, c)
	}
	return c
}

// doubledCo is a sum of a sum of .. c, so deep.
func doubledCo(n int, c api.Co) api.Co {
	for range n {
		c = CoNode(api.CoSum, c, c)
	}
	return c
}
