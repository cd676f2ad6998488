package insert_test

import (
	"math/rand"
	"slices"

	"lychgate/api"
	"lychgate/types"
)

// A grower makes terms, always the same ones. They are static, and have the type that is wanted.
type grower struct {
	random *rand.Rand
	names  []string // those that are around, with their types
	types  []api.Type
}

func newGrower(seed int64) *grower {
	return &grower{random: rand.New(rand.NewSource(seed))}
}

func one[T any](g *grower, of ...T) T { return of[g.random.Intn(len(of))] }

// someType is a known type that is no deeper than that.
func (g *grower) someType(depth int) api.Type {
	if depth == 1 || g.random.Intn(3) == 0 {
		return of(one[int8](g, api.Int, api.Int, api.Bool))
	}
	return of(one[int8](g, api.Fun, api.Pair, api.Sum), g.someType(depth-1), g.someType(depth-1))
}

// term is a term of any type, without free names.
func (g *grower) term(depth int) api.Term {
	g.names, g.types = nil, nil
	return g.of(g.someType(3), depth)
}

// of is a term that has the type want.
func (g *grower) of(want api.Type, depth int) api.Term {
	if x, ok := g.around(want); ok && (depth <= 1 || g.random.Intn(5) == 0) {
		return x
	}
	depth--
	if depth <= 0 || g.random.Intn(3) == 0 {
		return g.intro(want, depth)
	}
	switch g.random.Intn(8) {
	case 0:
		argument := g.someType(2)
		return node(api.App, 0, g.of(of(api.Fun, argument, want), depth), g.of(argument, depth))
	case 1:
		x := api.Term{Kind: api.Let, Name: g.name(), Type: g.someType(2)}
		x.Kids = []api.Term{g.of(x.Type, depth), g.within(want, depth, []string{x.Name}, x.Type)}
		return x
	case 2:
		return node(api.If, 0, g.of(boolean(), depth), g.of(want, depth), g.of(want, depth))
	case 3:
		return node(api.Fst, 0, g.of(of(api.Pair, want, g.someType(2)), depth))
	case 4:
		return node(api.Snd, 0, g.of(of(api.Pair, g.someType(2), want), depth))
	case 5:
		l, r := g.someType(2), g.someType(2)
		x := api.Term{Kind: api.Case, Name: g.name(), Arg: g.name()}
		x.Kids = []api.Term{g.of(of(api.Sum, l, r), depth), g.within(want, depth, []string{x.Name}, l), g.within(want, depth, []string{x.Arg}, r)}
		return x
	case 6:
		return api.Term{Kind: api.Is, Type: want, Kids: []api.Term{g.of(want, depth)}}
	}
	return g.intro(want, depth)
}

// intro is a term that is made of the parts of its type.
func (g *grower) intro(want api.Type, depth int) api.Term {
	switch want.Kind {
	case api.Int:
		if depth <= 0 {
			return api.Term{Kind: api.Num, Num: int64(g.random.Intn(9) - 4)}
		}
		return api.Term{Kind: api.Op, Name: one(g, "+", "-", "*", "/"), Kids: []api.Term{g.of(want, depth), g.of(want, depth)}}
	case api.Bool:
		if depth <= 0 {
			return node(one[int8](g, api.Yes, api.No), 0)
		}
		return api.Term{Kind: api.Op, Name: one(g, "<", "="), Kids: []api.Term{g.of(integer(), depth), g.of(integer(), depth)}}
	case api.Pair:
		return node(api.Two, 0, g.of(want.Kids[0], depth), g.of(want.Kids[1], depth))
	case api.Sum:
		side := g.random.Intn(2)
		return api.Term{Kind: [...]int8{api.Inl, api.Inr}[side], Type: want, Kids: []api.Term{g.of(want.Kids[side], depth)}}
	}
	if g.random.Intn(2) == 0 {
		x := api.Term{Kind: api.Rec, Name: g.name(), Arg: g.name(), Type: want.Kids[0], To: want.Kids[1]}
		x.Kids = []api.Term{g.within(x.To, depth, []string{x.Name, x.Arg}, want, x.Type)}
		return x
	}
	x := api.Term{Kind: api.Lam, Name: g.name(), Type: want.Kids[0]}
	x.Kids = []api.Term{g.within(want.Kids[1], depth, []string{x.Name}, x.Type)}
	return x
}

func (g *grower) name() string { return one(g, "x", "y", "z", "f") }

// around is a name that has that type.
func (g *grower) around(want api.Type) (api.Term, bool) {
	for n := range g.names {
		if types.Same(g.types[n], want) && !slices.Contains(g.names[n+1:], g.names[n]) {
			return name(g.names[n], 0), true
		}
	}
	return api.Term{}, false
}

// within is a term which these names are around, too.
func (g *grower) within(want api.Type, depth int, names []string, ofTypes ...api.Type) api.Term {
	n := len(g.names)
	g.names, g.types = append(g.names, names...), append(g.types, ofTypes...)
	x := g.of(want, depth)
	g.names, g.types = g.names[:n], g.types[:n]
	return x
}

// opened is a with some parts made unknown, now and then.
func (g *grower) opened(a api.Type) api.Type {
	if g.random.Intn(9) == 0 {
		return unknown()
	}
	return spread(a, g.opened)
}

// spoilt is a with some parts changed, now and then.
func (g *grower) spoilt(a api.Type) api.Type {
	if g.random.Intn(16) == 0 {
		return g.someType(2)
	}
	return spread(a, g.spoilt)
}

// spread is a with each of its parts changed.
func spread(a api.Type, change func(api.Type) api.Type) api.Type {
	b := of(a.Kind)
	for _, kid := range a.Kids {
		b.Kids = append(b.Kids, change(kid))
	}
	return b
}

// annotated is x with each of its annotations changed.
func annotated(x api.Term, change func(api.Type) api.Type) api.Term {
	switch x.Kind {
	case api.Lam, api.Let, api.Inl, api.Inr, api.Is:
		x.Type = change(x.Type)
	case api.Rec:
		x.Type, x.To = change(x.Type), change(x.To)
	}
	return over(x, func(kid api.Term) api.Term { return annotated(kid, change) })
}

// someOpened is x with parts of one annotation of it, or of some, made unknown.
func (g *grower) someOpened(x api.Term) api.Term {
	count := 0
	annotated(x, func(a api.Type) api.Type { count++; return a })
	chosen := g.random.Intn(count + 1)
	return annotated(x, func(a api.Type) api.Type {
		chosen--
		if chosen == 0 || g.random.Intn(4) == 0 {
			return g.opened(a)
		}
		return a
	})
}

// someCast is x, now and then with a Cast in it, most of which change nothing.
func (g *grower) someCast(x api.Term) api.Term {
	if g.random.Intn(12) == 0 {
		a := g.someType(2)
		return api.Term{Kind: api.Cast, Type: a, To: a, Label: 1 + g.random.Intn(9), Kids: []api.Term{x}}
	}
	return over(x, g.someCast)
}

// over is x with each of its kids changed.
func over(x api.Term, change func(api.Term) api.Term) api.Term {
	kids := x.Kids
	x.Kids = nil
	for _, kid := range kids {
		x.Kids = append(x.Kids, change(kid))
	}
	return x
}

// mixed is x with a term here and there put for another one, or a name for another one.
func (g *grower) mixed(x api.Term) api.Term {
	switch {
	case x.Kind == api.Var && g.random.Intn(6) == 0:
		x.Name = g.name()
	case len(x.Kids) > 1 && g.random.Intn(12) == 0:
		x.Kids = slices.Clone(x.Kids)
		slices.Reverse(x.Kids)
	case g.random.Intn(20) == 0:
		x = one(g, name(g.name(), 0), node(api.Yes, 0), node(api.Two, 0, x, x), node(api.Fst, 0, x), api.Term{Kind: api.Num})
	}
	return over(x, g.mixed)
}
