package proof_test

import (
	"math/rand"
	"slices"

	"lychgate/api"
)

// A grower makes terms, always the same ones. Most of them have a type: each is made to have one that agrees with one that is wanted.
type grower struct {
	random *rand.Rand
	names  []string // those that are around, with their types
	types  []api.Type
}

func newGrower(seed int64) *grower {
	return &grower{random: rand.New(rand.NewSource(seed))}
}

func one[T any](g *grower, of ...T) T { return of[g.random.Intn(len(of))] }

// someType is a type that is no deeper than that.
func (g *grower) someType(depth int) api.Type {
	if depth == 1 || g.random.Intn(3) == 0 {
		return of(one[int8](g, api.Unknown, api.Int, api.Int, api.Bool))
	}
	return of(one[int8](g, api.Fun, api.Pair, api.Sum), g.someType(depth-1), g.someType(depth-1))
}

// term is a term of any type, without free names.
func (g *grower) term(depth int) api.Term {
	g.names, g.types = nil, nil
	return g.of(g.someType(3), depth)
}

// of is a term that is to have a type that agrees with want.
func (g *grower) of(want api.Type, depth int) api.Term {
	if x, ok := g.around(want); ok && (depth <= 1 || g.random.Intn(5) == 0) {
		return x
	}
	if depth <= 1 {
		return g.leaf(want)
	}
	depth--
	if g.random.Intn(3) == 0 {
		return g.intro(want, depth)
	}
	switch g.random.Intn(8) {
	case 0:
		argument := g.someType(2)
		return node(api.App, g.of(of(api.Fun, argument, want), depth), g.of(argument, depth))
	case 1:
		a := g.someType(2)
		x := api.Term{Kind: api.Let, Name: g.name(), Type: g.opened(a), Kids: []api.Term{g.of(a, depth)}}
		x.Kids = append(x.Kids, g.within(want, depth, []string{x.Name}, x.Type))
		return x
	case 2:
		return node(api.If, g.of(boolean(), depth), g.of(want, depth), g.of(want, depth))
	case 3:
		return node(api.Fst, g.of(of(api.Pair, want, g.someType(2)), depth))
	case 4:
		return node(api.Snd, g.of(of(api.Pair, g.someType(2), want), depth))
	case 5:
		l, r := g.someType(2), g.someType(2)
		x := api.Term{Kind: api.Case, Name: g.name(), Arg: g.name(), Kids: []api.Term{g.of(of(api.Sum, l, r), depth)}}
		x.Kids = append(x.Kids, g.within(want, depth, []string{x.Name}, l), g.within(want, depth, []string{x.Arg}, r))
		return x
	case 6:
		return api.Term{Kind: api.Is, Type: want, Kids: []api.Term{g.of(g.opened(want), depth)}}
	}
	return g.intro(want, depth)
}

// intro is a term that is made of the parts of its type.
func (g *grower) intro(want api.Type, depth int) api.Term {
	switch want.Kind {
	case api.Unknown:
		return g.of(g.someType(2), depth)
	case api.Int:
		return api.Term{Kind: api.Op, Name: one(g, "+", "-", "*", "/"), Kids: []api.Term{g.of(want, depth), g.of(want, depth)}}
	case api.Bool:
		return api.Term{Kind: api.Op, Name: one(g, "<", "="), Kids: []api.Term{g.of(integer(), depth), g.of(integer(), depth)}}
	case api.Pair:
		return node(api.Two, g.of(want.Kids[0], depth), g.of(want.Kids[1], depth))
	case api.Sum:
		side := g.random.Intn(2)
		return api.Term{Kind: [...]int8{api.Inl, api.Inr}[side], Type: g.opened(want), Kids: []api.Term{g.of(want.Kids[side], depth)}}
	}
	if g.random.Intn(2) == 0 {
		x := api.Term{Kind: api.Rec, Name: g.name(), Arg: g.name(), Type: g.opened(want.Kids[0]), To: g.opened(want.Kids[1])}
		x.Kids = []api.Term{g.within(x.To, depth, []string{x.Name, x.Arg}, of(api.Fun, x.Type, x.To), x.Type)}
		return x
	}
	x := api.Term{Kind: api.Lam, Name: g.name(), Type: g.opened(want.Kids[0])}
	x.Kids = []api.Term{g.within(want.Kids[1], depth, []string{x.Name}, x.Type)}
	return x
}

// leaf is a term that is hardly any deep.
func (g *grower) leaf(want api.Type) api.Term {
	switch want.Kind {
	case api.Int:
		return api.Term{Kind: api.Num, Num: int64(g.random.Intn(9) - 4)}
	case api.Bool:
		return node(one[int8](g, api.Yes, api.No))
	}
	return api.Term{Kind: api.Is, Kids: []api.Term{g.leaf(of(one[int8](g, api.Int, api.Bool)))}}
}

func (g *grower) name() string { return one(g, "x", "y", "z", "f") }

// around is a name that has such a type.
func (g *grower) around(want api.Type) (api.Term, bool) {
	for range len(g.names) {
		n := g.random.Intn(len(g.names))
		if a := g.types[n]; a.Kind == want.Kind || a.Kind == api.Unknown {
			return name(g.names[n]), true
		}
	}
	return api.Term{}, false
}

// within is a term which these names are around, too.
func (g *grower) within(want api.Type, depth int, names []string, ofTypes ...api.Type) api.Term {
	n := len(g.names)
	g.names, g.types = append(g.names, names...), append(g.types, ofTypes...)
	x := g.of(want, depth)
	g.names, g.types = g.names[:n], g.types[:n]
	return x
}

// opened is a with some parts made unknown.
func (g *grower) opened(a api.Type) api.Type {
	if g.random.Intn(7) == 0 {
		return unknown()
	}
	return spread(a, g.opened)
}

// spoilt is a with some parts made unknown, and some changed.
func (g *grower) spoilt(a api.Type) api.Type {
	switch g.random.Intn(16) {
	case 0:
		return g.someType(2)
	case 1, 2:
		return unknown()
	}
	return spread(a, g.spoilt)
}

// spread is a with each of its parts changed.
func spread(a api.Type, change func(api.Type) api.Type) api.Type {
	b := of(a.Kind)
	for _, kid := range a.Kids {
		b.Kids = append(b.Kids, change(kid))
	}
	return b
}

// annotated is x with each of its annotations changed.
func annotated(x api.Term, change func(api.Type) api.Type) api.Term {
	x.Type, x.To = change(x.Type), change(x.To)
	return over(x, func(kid api.Term) api.Term { return annotated(kid, change) })
}

// over is x with each of its kids changed.
func over(x api.Term, change func(api.Term) api.Term) api.Term {
	kids := x.Kids
	x.Kids = nil
	for _, kid := range kids {
		x.Kids = append(x.Kids, change(kid))
	}
	return x
}

// mixed is x with a term here and there put for another one, or a name for another one.
func (g *grower) mixed(x api.Term) api.Term {
	switch {
	case x.Kind == api.Var && g.random.Intn(6) == 0:
		x.Name = g.name()
	case len(x.Kids) > 1 && g.random.Intn(12) == 0:
		x.Kids = slices.Clone(x.Kids)
		slices.Reverse(x.Kids)
	case g.random.Intn(20) == 0:
		x = one(g, name(g.name()), node(api.Yes), node(api.Two, x, x), node(api.Fst, x), api.Term{Kind: api.Num})
	}
	return over(x, g.mixed)
}

// changed is p with something changed in one place of it, or here and there; now and then it is p as it was.
func (g *grower) changed(p api.Proof) api.Proof {
	if g.random.Intn(4) == 0 {
		return g.changedAll(p, p)
	}
	ways := placesOf(p)
	way := one(g, ways...)
	return putProof(p, way, g.changedHere(withinProof(p, way), p))
}

func (g *grower) changedAll(p, whole api.Proof) api.Proof {
	if g.random.Intn(6) == 0 {
		p = g.changedHere(p, whole)
	}
	kids := p.Kids
	p.Kids = nil
	for _, kid := range kids {
		p.Kids = append(p.Kids, g.changedAll(kid, whole))
	}
	return p
}

// changedHere is p with its rule, its type or its kids changed, or another one out of the whole.
func (g *grower) changedHere(p, whole api.Proof) api.Proof {
	p.Kids = slices.Clone(p.Kids)
	switch g.random.Intn(9) {
	case 0:
		p.Rule = ruleOf(int8(g.random.Intn(api.Cast + 1)))
	case 1:
		p.Type = g.spoilt(p.Type)
	case 2:
		p.Type = g.opened(p.Type)
	case 3:
		p.Type = g.someType(3)
	case 4:
		p.Kids = append(p.Kids, withinProof(whole, one(g, placesOf(whole)...)))
	case 5:
		p.Kids = p.Kids[:len(p.Kids)/2]
	case 6:
		slices.Reverse(p.Kids)
	case 7:
		p = withinProof(whole, one(g, placesOf(whole)...))
	case 8:
		p.Type.Kids = append(p.Type.Kids, one(g, nil, nil, []api.Type{integer()})...)
	}
	return p
}

// placesOf are the ways to p and to all derivations within it: which kid, and of that which one.
func placesOf(p api.Proof) [][]int {
	all := [][]int{nil}
	for n, kid := range p.Kids {
		for _, way := range placesOf(kid) {
			all = append(all, append([]int{n}, way...))
		}
	}
	return all
}

// withinProof is the derivation at that place of p.
func withinProof(p api.Proof, way []int) api.Proof {
	for _, n := range way {
		p = p.Kids[n]
	}
	return p
}

// putProof is p with another derivation at that place.
func putProof(p api.Proof, way []int, q api.Proof) api.Proof {
	if len(way) == 0 {
		return q
	}
	return withKid(p, way[0], putProof(p.Kids[way[0]], way[1:], q))
}

// withKid is p with another one of its kids.
func withKid(p api.Proof, n int, kid api.Proof) api.Proof {
	p.Kids = slices.Clone(p.Kids)
	p.Kids[n] = kid
	return p
}
