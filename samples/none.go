package samples

import (
	"strings"

	"lychgate/api"
	"lychgate/terms"
)

// Littered is x, with something in all that does not count but At.
func Littered(x api.Term) api.Term {
	bare := terms.Bare(x)
	if x.Kind != api.Cast {
		x.Label = 3
	}
	if bare.Name == "" {
		x.Name = "in"
	}
	if bare.Arg == "" {
		x.Arg = "1"
	}
	if x.Kind != api.Num {
		x.Num = 5
	}
	switch x.Kind {
	case api.Lam, api.Let, api.Inl, api.Inr, api.Is:
		x.To = Endless(api.Fun)
	case api.Rec, api.Cast:
	default:
		x.Type, x.To = Of(99), Endless(api.Sum)
	}
	return Over(x, Littered)
}

// NoTerms are no terms, with what terms.Check tells of each. Some have no end.
func NoTerms() map[api.Errno][]api.Term {
	x := Node(api.Yes)
	x.At = 7
	within := make([]api.Term, 2)
	within[0], within[1] = x, Node(api.Two, within...)
	return map[api.Errno][]api.Term{
		api.ErrTerm: append(illFormed(x), many(api.Fst, 199, api.Term{}), doubled(12, api.Term{})),
		api.ErrTooDeep: {
			many(api.Fst, 200, x), many(api.Snd, 8000, x), many(api.Fst, 200, api.Term{}), to(x, Chain(api.Fun, 200, true, Of(api.Int))), from(x, Chain(api.Sum, 4000, false, Of(api.Int))),
			is(x, Chain(api.Sum, 200, false, Of(api.Bool))), many(api.Fst, 180, to(x, Chain(api.Pair, 20, true, Of(api.Int)))),
		},
		api.ErrTooBig: {
			many(api.Fst, 8192, x), doubled(13, x), doubled(40, x), doubled(13, api.Term{}), within[1], to(x, Full(api.Fun, 13, Of(api.Int))), from(x, Full(api.Fun, 50, Of(api.Int))),
			is(x, Endless(api.Pair)), to(x, Endless(api.Pair)), from(x, Endless(99)), doubled(11, Cast(Of(api.Bool), Of(api.Unknown), 0, x)),
		},
	}
}

// illFormed are neither too great nor too deep.
func illFormed(x api.Term) []api.Term {
	one, two, three := []api.Term{x}, []api.Term{x, x}, []api.Term{x, x, x}
	integer, truth, open := Of(api.Int), Of(api.Bool), Of(api.Unknown)
	return []api.Term{
		{}, {At: 7}, {Name: "in", At: 7}, {Kind: 18, At: 7}, {Kind: -1}, {Kind: 127}, {Kind: -128}, {Kind: 18, Kids: one}, {Name: "x", Kids: one},
		Node(api.Yes, x), Node(api.Num, x), Node(api.App, x), Node(api.If, two...), Node(api.Case, three...), Node(api.Two, three...), Node(api.Fst), Node(api.Snd, two...),
		{Kind: api.Lam, Name: "x"}, {Kind: api.Lam, Kids: one}, {Kind: api.Lam, Name: "x", Type: Of(api.Fun), Kids: one}, {Kind: api.Lam, Name: strings.Repeat("x", 65), Kids: one},
		{Kind: api.Rec, Name: "f", Arg: "x", To: Of(api.Unknown, open), Kids: one}, {Kind: api.Rec, Name: "f", Kids: one}, {Kind: api.Rec, Arg: "x", Kids: one},
		{Kind: api.Let, Name: "x", Kids: one}, {Kind: api.Let, Name: "1", Kids: two}, {Kind: api.Case, Name: "x", Kids: three},
		{Kind: api.Op, Name: "%", Kids: two}, {Kind: api.Op, Kids: two}, {Kind: api.Op, Name: "+", Kids: one}, {Kind: api.Inl, Type: Of(6), Kids: one},
		is(x, Of(api.Int, open)), is(x, Of(-1)), is(x, Of(api.Sum, integer)),
		{Kind: api.Cast, Label: 1}, {Kind: api.Cast, Label: 1, Kids: two}, {Kind: api.Cast, Kids: one}, Cast(truth, open, 0, x), Cast(truth, open, 1<<31+1, x), Cast(truth, open, -1<<31-1, x),
		to(x, Of(6)), to(x, Of(-1)), to(x, Of(api.Fun, integer)), to(x, Of(api.Fun, integer, Of(99))),
		from(x, Of(6)), from(x, Of(api.Sum)), from(x, Of(api.Bool, integer)), from(x, Of(api.Pair, integer, integer, integer)),
	}
}

// many are so many terms of that kind within one another, around x.
func many(kind int8, n int, x api.Term) api.Term {
	for range n {
		x = Node(kind, x)
	}
	return x
}

// doubled is a pair of a pair of .. x, so deep.
func doubled(n int, x api.Term) api.Term {
	for range n {
		x = Node(api.Two, x, x)
	}
	return x
}

func is(x api.Term, a api.Type) api.Term {
	return api.Term{Kind: api.Is, Type: a, At: 7, Kids: []api.Term{x}}
}

func to(x api.Term, a api.Type) api.Term { return Cast(Of(api.Bool), a, 1, x) }

func from(x api.Term, a api.Type) api.Term { return Cast(a, Of(api.Unknown), 1, x) }
