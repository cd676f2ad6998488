package samples

import (
	"slices"

	"lychgate/api"
	"lychgate/types"
)

// Dice tell a number from 0 to below n.
type Dice interface{ Intn(n int) int }

// A Grower makes terms that have the type which is wanted. With the same Dice they are the same ones.
type Grower struct {
	Dice
	Ascribes bool // there may be Is in them
	Casts    bool // there may be Casts in them, and ? in types
	names    []string
	types    []api.Type // those of the names, which are around
}

// One is one of some.
func One[T any](dice Dice, of ...T) T { return of[dice.Intn(len(of))] }

// SomeType is a type that is no deeper than that.
func (g *Grower) SomeType(depth int) api.Type {
	switch {
	case g.Casts && g.Intn(4) == 0:
		return Of(api.Unknown)
	case depth <= 1 || g.Intn(3) == 0:
		return Of(One[int8](g, api.Int, api.Int, api.Bool))
	}
	return Of(One[int8](g, api.Fun, api.Pair, api.Sum), g.SomeType(depth-1), g.SomeType(depth-1))
}

// Agreeing is a type that agrees with a.
func (g *Grower) Agreeing(a api.Type) api.Type {
	switch {
	case a.Kind == api.Unknown:
		return g.SomeType(2)
	case g.Intn(3) == 0:
		return Of(api.Unknown)
	}
	return Spread(a, g.Agreeing)
}

// Label is one that chapter 3 lets in.
func (g *Grower) Label() int { return One(g, 1, 2, 3, -1, -2, 1<<31, -1<<31) }

// SomeName is one of four.
func (g *Grower) SomeName() string { return One(g, "x", "y", "z", "f") }

// Term is a term of any type, without free names.
func (g *Grower) Term(depth int) api.Term {
	g.names, g.types = nil, nil
	return g.of(g.SomeType(3), depth)
}

// of is a term that has the type want.
func (g *Grower) of(want api.Type, depth int) api.Term {
	if x, ok := g.around(want); ok && (depth <= 1 || g.Intn(5) == 0) {
		return x
	}
	depth--
	if depth <= 0 || g.Intn(3) == 0 {
		return g.intro(want, depth)
	}
	switch roll := g.Intn(9); {
	case roll < 5:
		return g.elim(roll, want, depth)
	case roll == 5:
		return Node(api.If, g.of(Of(api.Bool), depth), g.of(want, depth), g.of(want, depth))
	case roll == 6 && g.Ascribes:
		return api.Term{Kind: api.Is, Type: want, Kids: []api.Term{g.of(want, depth)}}
	case roll > 6 && g.Casts:
		return g.cast(want, depth)
	}
	return g.intro(want, depth)
}

// elim is a term that takes something apart, or names it.
func (g *Grower) elim(roll int, want api.Type, depth int) api.Term {
	a, b := g.SomeType(2), g.SomeType(2)
	switch roll {
	case 0:
		return Node(api.App, g.of(Of(api.Fun, a, want), depth), g.of(a, depth))
	case 1:
		x := api.Term{Kind: api.Let, Name: g.SomeName(), Type: a}
		x.Kids = []api.Term{g.of(a, depth), g.within(want, depth, []string{x.Name}, a)}
		return x
	case 2:
		return Node(api.Fst, g.of(Of(api.Pair, want, a), depth))
	case 3:
		return Node(api.Snd, g.of(Of(api.Pair, a, want), depth))
	}
	x := api.Term{Kind: api.Case, Name: g.SomeName(), Arg: g.SomeName()}
	x.Kids = []api.Term{g.of(Of(api.Sum, a, b), depth), g.within(want, depth, []string{x.Name}, a), g.within(want, depth, []string{x.Arg}, b)}
	return x
}

// cast is a Cast to want.
func (g *Grower) cast(want api.Type, depth int) api.Term {
	from := g.Agreeing(want)
	return Cast(from, want, g.Label(), g.of(from, depth))
}

// intro is a term that is made of the parts of its type.
func (g *Grower) intro(want api.Type, depth int) api.Term {
	switch want.Kind {
	case api.Unknown:
		if depth > 0 {
			return g.cast(want, depth)
		}
		return Cast(Of(api.Int), want, g.Label(), g.number())
	case api.Int:
		if depth <= 0 {
			return g.number()
		}
		return g.operation(depth, "+", "-", "*", "/")
	case api.Bool:
		if depth <= 0 {
			return Node(One[int8](g, api.Yes, api.No))
		}
		return g.operation(depth, "<", "=")
	case api.Pair:
		return Node(api.Two, g.of(want.Kids[0], depth), g.of(want.Kids[1], depth))
	case api.Sum:
		side := g.Intn(2)
		return api.Term{Kind: [...]int8{api.Inl, api.Inr}[side], Type: want, Kids: []api.Term{g.of(want.Kids[side], depth)}}
	}
	x := api.Term{Kind: api.Lam, Name: g.SomeName(), Type: want.Kids[0]}
	if g.Intn(2) == 0 {
		x.Kids = []api.Term{g.within(want.Kids[1], depth, []string{x.Name}, x.Type)}
		return x
	}
	x.Kind, x.Arg, x.To = api.Rec, g.SomeName(), want.Kids[1]
	x.Kids = []api.Term{g.within(x.To, depth, []string{x.Name, x.Arg}, want, x.Type)}
	return x
}

func (g *Grower) number() api.Term { return api.Term{Kind: api.Num, Num: int64(g.Intn(9) - 4)} }

func (g *Grower) operation(depth int, operators ...string) api.Term {
	return api.Term{Kind: api.Op, Name: One(g, operators...), Kids: []api.Term{g.of(Of(api.Int), depth), g.of(Of(api.Int), depth)}}
}

// around is a name that has that type.
func (g *Grower) around(want api.Type) (api.Term, bool) {
	for n := range g.names {
		if types.Same(g.types[n], want) && !slices.Contains(g.names[n+1:], g.names[n]) {
			return Name(g.names[n]), true
		}
	}
	return api.Term{}, false
}

// within is a term which these names are around, too.
func (g *Grower) within(want api.Type, depth int, names []string, ofTypes ...api.Type) api.Term {
	n := len(g.names)
	g.names, g.types = append(g.names, names...), append(g.types, ofTypes...)
	x := g.of(want, depth)
	g.names, g.types = g.names[:n], g.types[:n]
	return x
}

// Spoilt is a with some parts changed, now and then.
func (g *Grower) Spoilt(a api.Type) api.Type {
	if g.Intn(16) == 0 {
		return g.SomeType(2)
	}
	return Spread(a, g.Spoilt)
}

// Opened is a with some parts made unknown, now and then.
func (g *Grower) Opened(a api.Type) api.Type {
	if g.Intn(9) == 0 {
		return Of(api.Unknown)
	}
	return Spread(a, g.Opened)
}

// Mixed is x with a term here and there put for another one, or a name for another one.
func (g *Grower) Mixed(x api.Term) api.Term {
	switch {
	case x.Kind == api.Var && g.Intn(6) == 0:
		x.Name = g.SomeName()
	case x.Kind == api.Cast && g.Intn(8) == 0:
		x.Type, x.To = x.To, x.Type
	case x.Kind == api.Cast && g.Intn(8) == 0:
		x = x.Kids[0]
	case len(x.Kids) > 1 && g.Intn(12) == 0:
		x.Kids = slices.Clone(x.Kids)
		slices.Reverse(x.Kids)
	case g.Intn(20) == 0:
		x = One(g, Name(g.SomeName()), Node(api.Yes), Node(api.Two, x, x), Node(api.Fst, x), api.Term{Kind: api.Num})
	}
	return Over(x, g.Mixed)
}
