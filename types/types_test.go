package types_test

import (
	"math"
	"testing"

	"lychgate/api"
	"lychgate/types"
)

func of(kind int8, kids ...api.Type) api.Type { return api.Type{Kind: kind, Kids: kids} }

func unknown() api.Type { return of(api.Unknown) }

func integer() api.Type { return of(api.Int) }

func boolean() api.Type { return of(api.Bool) }

func fun(a, b api.Type) api.Type { return of(api.Fun, a, b) }

func pair(a, b api.Type) api.Type { return of(api.Pair, a, b) }

func sum(a, b api.Type) api.Type { return of(api.Sum, a, b) }

// down is a type so many types deep, each the right part of the one around it.
func down(kind int8, depth int) api.Type {
	a := integer()
	for range depth - 1 {
		a = of(kind, integer(), a)
	}
	return a
}

// full is a type of 2^depth - 1 nodes, whose parts are shared.
func full(kind int8, depth int) api.Type {
	a := integer()
	for range depth - 1 {
		a = of(kind, a, a)
	}
	return a
}

// endless is a type that lies within itself.
func endless(kind int8) api.Type {
	kids := make([]api.Type, 2)
	kids[0], kids[1] = integer(), of(kind, kids...)
	return kids[1]
}

// broad has so many nodes, one beside the other but for the one around them.
func broad(kind int8, nodes int) api.Type { return of(kind, make([]api.Type, nodes-1)...) }

type measured struct {
	name  string
	a     api.Type
	e     api.Errno
	nodes int
	depth int
}

func edges() []measured {
	i := integer()
	return []measured{
		{"?", unknown(), api.OK, 1, 1},
		{"int", i, api.OK, 1, 1},
		{"bool", boolean(), api.OK, 1, 1},
		{"int -> bool", fun(i, boolean()), api.OK, 3, 2},
		{"deeper on the left", pair(sum(i, fun(i, i)), i), api.OK, 7, 4},
		{"deeper on the right", pair(i, sum(i, fun(i, i))), api.OK, 7, 4},
		{"parts with empty lists", fun(of(api.Int, []api.Type{}...), api.Type{Kids: []api.Type{}}), api.OK, 3, 2},
		{"as deep as may be", down(api.Fun, 200), api.OK, 399, 200},
		{"as deep as may be, on the left", sum(down(api.Sum, 199), i), api.OK, 399, 200},
		{"too deep by one", down(api.Sum, 201), api.ErrTooDeep, 401, 201},
		{"too deep by one, on the left", pair(down(api.Pair, 200), i), api.ErrTooDeep, 401, 201},
		{"too deep by many", down(api.Pair, 4096), api.ErrTooDeep, 8191, 201},
		{"as many nodes as may be", full(api.Pair, 13), api.OK, 8191, 13},
		{"too many nodes by one", pair(full(api.Pair, 12), pair(full(api.Pair, 12), i)), api.ErrTooBig, 8193, 201},
		{"too many nodes, not deep", full(api.Sum, 14), api.ErrTooBig, 8193, 201},
		{"forty deep and shared", full(api.Pair, 40), api.ErrTooBig, 8193, 201},
		{"sixty thousand deep", down(api.Fun, 60000), api.ErrTooBig, 8193, 201},
		{"within itself", endless(api.Fun), api.ErrTooBig, 8193, 201},
		{"a Fun without kids", of(api.Fun), api.ErrType, 1, 1},
		{"a Fun with one kid", of(api.Fun, i), api.ErrType, 2, 2},
		{"a Fun with three kids", of(api.Fun, i, i, i), api.ErrType, 4, 2},
		{"a Pair without kids", of(api.Pair), api.ErrType, 1, 1},
		{"a Pair with one kid", of(api.Pair, i), api.ErrType, 2, 2},
		{"a Sum with three kids", of(api.Sum, i, i, i), api.ErrType, 4, 2},
		{"an Unknown with a kid", of(api.Unknown, i), api.ErrType, 2, 2},
		{"an Int with two kids", of(api.Int, i, i), api.ErrType, 3, 2},
		{"a Bool with a kid with a kid", of(api.Bool, of(api.Bool, i)), api.ErrType, 3, 3},
		{"the kind 6", of(6), api.ErrType, 1, 1},
		{"the kind 6 with two kids", of(6, i, i), api.ErrType, 3, 2},
		{"the kind -1", of(-1), api.ErrType, 1, 1},
		{"the kind 127", of(127, i), api.ErrType, 2, 2},
		{"the kind -128", of(-128, i, i), api.ErrType, 3, 2},
		{"none on the left", fun(of(6), i), api.ErrType, 3, 2},
		{"none deep on the right", fun(i, pair(i, sum(i, of(api.Int, i)))), api.ErrType, 8, 5},
		{"a kid too many for all", broad(api.Int, 8192), api.ErrType, 8192, 2},
		{"too many nodes ahead of a kind that is none", broad(99, 8193), api.ErrTooBig, 8193, 201},
		{"too deep ahead of a kind that is none", fun(of(6), down(api.Fun, 200)), api.ErrTooDeep, 401, 201},
		{"a kind that is none, too deep", down(6, 201), api.ErrTooDeep, 401, 201},
		{"a kind that is none, as deep as may be", down(6, 200), api.ErrType, 399, 200},
		{"a kind that is none, within itself", endless(-7), api.ErrTooBig, 8193, 201},
	}
}

// P2.1 and P2.2.
func TestCheckNodesDepth(t *testing.T) {
	for _, x := range edges() {
		if e := types.Check(x.a); e != x.e {
			t.Errorf("Check of %s: %v, want %v", x.name, e, x.e)
		}
		if n := types.Nodes(x.a); n != x.nodes {
			t.Errorf("Nodes of %s: %d, want %d", x.name, n, x.nodes)
		}
		if d := types.Depth(x.a); d != x.depth {
			t.Errorf("Depth of %s: %d, want %d", x.name, d, x.depth)
		}
	}
}

// P2.1.
func TestEveryKindWithUpToThreeKids(t *testing.T) {
	for kind := math.MinInt8; kind <= math.MaxInt8; kind++ {
		for kids := range 4 {
			want := api.ErrType
			if kind >= 0 && kind <= 2 && kids == 0 || kind >= 3 && kind <= 5 && kids == 2 {
				want = api.OK
			}
			a := of(int8(kind), make([]api.Type, kids)...)
			if e := types.Check(a); e != want {
				t.Errorf("Check of the kind %d with %d kids: %v, want %v", kind, kids, e, want)
			}
			if e := types.Check(sum(integer(), a)); e != want {
				t.Errorf("Check of a Sum of the kind %d with %d kids: %v, want %v", kind, kids, e, want)
			}
		}
	}
}

// What is refused by Check is none for any of the calls.
func TestWhatIsNoTypeIsNoneForAll(t *testing.T) {
	i := integer()
	for _, x := range edges() {
		ok := x.e == api.OK
		if types.Same(x.a, x.a) != ok {
			t.Errorf("Same of %s with itself: %v", x.name, !ok)
		}
		if s, e := types.Text(x.a); e != x.e || (s != "") != ok {
			t.Errorf("Text of %s: %.40q, %v; want %v", x.name, s, e, x.e)
		}
		if ok {
			continue
		}
		if types.Same(x.a, i) || types.Same(i, x.a) {
			t.Errorf("Same of %s and int: true", x.name)
		}
		if types.Known(x.a) {
			t.Errorf("Known of %s: true", x.name)
		}
		if g, ok := types.Ground(x.a); ok || g.Kind != 0 || len(g.Kids) != 0 {
			t.Errorf("Ground of %s: %v, %v", x.name, g, ok)
		}
	}
}

// P2.3.
func TestSame(t *testing.T) {
	i, b, u := integer(), boolean(), unknown()
	unlike := []api.Type{u, i, b, fun(i, i), pair(i, i), sum(i, i), fun(i, b), fun(b, i), fun(i, u), fun(u, i), fun(u, u),
		fun(i, fun(i, i)), fun(fun(i, i), i), sum(sum(i, b), u), sum(i, sum(b, u)), pair(i, sum(b, u)),
		down(api.Fun, 200), fun(i, down(api.Fun, 198)), down(api.Sum, 200), full(api.Fun, 12)}
	for n, x := range unlike {
		for m, y := range unlike {
			if types.Same(x, y) != (n == m) {
				t.Errorf("Same of %v and %v: %v", x, y, n != m)
			}
		}
	}
	if !types.Same(fun(i, sum(b, u)), fun(integer(), sum(boolean(), api.Type{Kids: []api.Type{}}))) {
		t.Error("Same tells nil and empty lists apart")
	}
}

// P2.3.
func TestKnown(t *testing.T) {
	i, b, u := integer(), boolean(), unknown()
	for _, a := range []api.Type{i, b, fun(i, b), pair(b, b), sum(fun(i, i), pair(b, i)), down(api.Fun, 200), full(api.Sum, 13)} {
		if !types.Known(a) {
			t.Errorf("Known(%v) is false", a)
		}
	}
	for _, a := range []api.Type{u, fun(i, u), fun(u, i), pair(u, b), sum(b, u), fun(u, u), sum(fun(i, i), pair(b, u)), sum(pair(fun(i, u), i), i)} {
		if types.Known(a) {
			t.Errorf("Known(%v) is true", a)
		}
	}
}

// P2.3.
func TestGround(t *testing.T) {
	i, b, u := integer(), boolean(), unknown()
	for _, x := range []struct{ a, ground api.Type }{
		{i, i}, {b, b},
		{fun(u, u), fun(u, u)}, {fun(i, b), fun(u, u)}, {fun(u, b), fun(u, u)}, {fun(fun(i, i), i), fun(u, u)},
		{pair(u, u), pair(u, u)}, {pair(i, b), pair(u, u)}, {pair(i, u), pair(u, u)},
		{sum(u, u), sum(u, u)}, {sum(i, b), sum(u, u)}, {sum(i, sum(b, b)), sum(u, u)},
		{down(api.Fun, 200), fun(u, u)}, {full(api.Sum, 13), sum(u, u)},
	} {
		if g, ok := types.Ground(x.a); !ok || !types.Same(g, x.ground) {
			t.Errorf("Ground(%v) = %v, %v; want %v", x.a, g, ok, x.ground)
		}
	}
	if g, ok := types.Ground(u); ok || g.Kind != 0 || len(g.Kids) != 0 {
		t.Errorf("Ground(?) = %v, %v", g, ok)
	}
}

// P2.4.
func TestText(t *testing.T) {
	i, b, u := integer(), boolean(), unknown()
	for _, x := range []struct {
		a    api.Type
		text string
	}{
		{u, "?"}, {i, "int"}, {b, "bool"},
		{fun(i, b), "int -> bool"}, {pair(i, b), "int * bool"}, {sum(i, b), "int + bool"},
		{fun(fun(i, u), sum(sum(i, b), pair(u, i))), "(int -> ?) -> int + bool + ? * int"},
		{sum(i, sum(i, i)), "int + (int + int)"},
		{pair(i, fun(i, i)), "int * (int -> int)"},

		{fun(i, fun(b, u)), "int -> bool -> ?"}, {fun(fun(i, b), u), "(int -> bool) -> ?"},
		{fun(i, sum(b, u)), "int -> bool + ?"}, {fun(sum(i, b), u), "int + bool -> ?"},
		{fun(i, pair(b, u)), "int -> bool * ?"}, {fun(pair(i, b), u), "int * bool -> ?"},
		{sum(i, fun(b, u)), "int + (bool -> ?)"}, {sum(fun(i, b), u), "(int -> bool) + ?"},
		{sum(i, sum(b, u)), "int + (bool + ?)"}, {sum(sum(i, b), u), "int + bool + ?"},
		{sum(i, pair(b, u)), "int + bool * ?"}, {sum(pair(i, b), u), "int * bool + ?"},
		{pair(i, fun(b, u)), "int * (bool -> ?)"}, {pair(fun(i, b), u), "(int -> bool) * ?"},
		{pair(i, sum(b, u)), "int * (bool + ?)"}, {pair(sum(i, b), u), "(int + bool) * ?"},
		{pair(i, pair(b, u)), "int * (bool * ?)"}, {pair(pair(i, b), u), "int * bool * ?"},

		{pair(pair(i, pair(b, i)), sum(fun(fun(i, i), i), i)), "int * (bool * int) * (((int -> int) -> int) + int)"},
		{fun(fun(fun(i, b), u), fun(i, fun(b, u))), "((int -> bool) -> ?) -> int -> bool -> ?"},
	} {
		if s, e := types.Text(x.a); e != api.OK || s != x.text {
			t.Errorf("Text = %q, %v; want %q", s, e, x.text)
		}
	}
}

// R3: the lists that are handed in stay as they are, with the room behind their ends.
func TestArgumentsStay(t *testing.T) {
	kids := []api.Type{sum(integer(), unknown()), boolean(), of(77), of(78)}
	a := of(api.Fun, kids[:2]...)
	types.Check(a)
	types.Nodes(a)
	types.Depth(a)
	types.Same(a, a)
	types.Known(a)
	types.Ground(a)
	types.Text(a)
	if !types.Same(kids[0], sum(integer(), unknown())) || !types.Same(kids[1], boolean()) || kids[2].Kind != 77 || kids[3].Kind != 78 {
		t.Errorf("now %v", kids)
	}
}

// R3: what is written into an answer is in no other one, nor in what was handed in.
func TestGroundsShareNothing(t *testing.T) {
	a := pair(unknown(), unknown())
	first, _ := types.Ground(a)
	second, _ := types.Ground(a)
	first.Kids[0], first.Kids[1] = integer(), boolean()
	if len(second.Kids) != 2 || second.Kids[0].Kind != api.Unknown || a.Kids[0].Kind != api.Unknown {
		t.Errorf("%v, %v", second, a)
	}
	if third, ok := types.Ground(a); !ok || !types.Same(third, a) {
		t.Errorf("%v, %v", third, ok)
	}
}
