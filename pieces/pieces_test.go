package pieces_test

import (
	"math"
	"slices"
	"testing"

	"lychgate/api"
	"lychgate/pieces"
	"lychgate/samples"
	"lychgate/types"
)

// goes wants Ends to tell from where to where c goes.
func goes(t *testing.T, c api.Co, from, to api.Type) {
	t.Helper()
	a, b, ok := pieces.Ends(c)
	if !ok || !types.Same(a, from) || !types.Same(b, to) {
		t.Errorf("from %s to %s, %v; want from %s to %s", samples.ShortType(a), samples.ShortType(b), ok, samples.ShortType(from), samples.ShortType(to))
	}
}

// Each constructor, and each kind.
func TestOver(t *testing.T) {
	a, b := samples.Coercion("id { int }"), samples.Coercion("{ bool } ? 3")
	for constructor, text := range map[int8]string{
		api.Fun: "( id { int } -> { bool } ? 3 )", api.Pair: "( id { int } * { bool } ? 3 )", api.Sum: "( id { int } + { bool } ? 3 )",
	} {
		if c, want := pieces.Over(constructor, a, b), samples.Coercion(text); !samples.CoExactly(c, want) || !samples.CoExactly(pieces.Two(want.Kind, a, b), want) {
			t.Errorf("%d: %v", constructor, c)
		}
	}
	if c := pieces.Two(api.CoSeq, a, b); !samples.CoExactly(c, samples.Coercion("id { int } ; { bool } ? 3")) {
		t.Error(c)
	}
}

// Labels go from 1 on, as far as chapter 15 has it.
func TestLabel(t *testing.T) {
	for n, want := range map[int]bool{0: false, 1: true, 77: true, 1 << 31: true, 1<<31 + 1: false, -1: false, -1 << 31: false, math.MinInt: false, math.MaxInt: false} {
		if pieces.Label(n) != want {
			t.Errorf("%d: %v", n, !want)
		}
	}
}

// Each kind, from where to where it goes.
func TestEnds(t *testing.T) {
	for text, want := range map[string][2]string{
		"id { int -> ? }": {"int -> ?", "int -> ?"}, "fail { int } { ? * ? } -3": {"int", "? * ?"}, "{ ? + ? } !": {"? + ?", "?"}, "{ bool } ? 1": {"?", "bool"},
		"( { int } ! -> { bool } ! )": {"? -> bool", "int -> ?"}, "( { int } ! * { bool } ? 2 )": {"int * ?", "? * bool"}, "( { int } ! + { bool } ! )": {"int + bool", "? + ?"},
		"{ int } ! ; { bool } ? 1 ; id { bool }": {"int", "bool"},
	} {
		goes(t, samples.Coercion(text), samples.Type(want[0]), samples.Type(want[1]))
		goes(t, samples.CoLittered(samples.Coercion(text)), samples.Type(want[0]), samples.Type(want[1]))
	}
}

// Beyond the bounds of coercions the rules still hold.
func TestEndsBeyondTheBounds(t *testing.T) {
	integer, deep, great := samples.Of(api.Int), samples.Coercion("id { int }"), samples.Coercion("{ int } !")
	for range 1000 {
		deep = pieces.Two(api.CoSeq, deep, samples.Coercion("id { int }"))
	}
	goes(t, deep, integer, integer)
	for range 12 { // 12287 nodes
		great = pieces.Over(api.Sum, great, great)
	}
	goes(t, great, samples.Full(api.Sum, 13, integer), samples.Full(api.Sum, 13, samples.Of(api.Unknown)))
}

// Where a rule does not hold, nothing is told.
func TestEndsOfNone(t *testing.T) {
	for _, c := range samples.NoCos()[api.ErrCoerce] {
		for _, around := range samples.CoAround(c) {
			if from, to, ok := pieces.Ends(around); ok || from.Kind != api.Unknown || to.Kind != api.Unknown || len(from.Kids)+len(to.Kids) > 0 {
				t.Errorf("%v: from %s to %s, %v", around.Kind, samples.ShortType(from), samples.ShortType(to), ok)
			}
		}
	}
}

// A copy is the same, has lists of its own, and nothing where nothing counts.
func TestCopy(t *testing.T) {
	for _, text := range []string{
		"id { ? }", "id { (int -> ?) * (? + bool) }", "fail { int * ? } { bool -> bool } -2147483648", "{ ? -> ? } !", "{ ? * ? } ? 12",
		"( ( id { int * int } -> { ? + ? } ! ) * ( { int } ? 1 + fail { int } { int -> ? } 2 ) )", "{ ? + ? } ? -3 ; ( id { ? } + id { ? } ) ; { ? + ? } !",
	} {
		want := samples.Coercion(text)
		for _, c := range []api.Co{want, samples.CoLittered(want)} {
			own, again := pieces.Copy(c), pieces.Copy(c)
			if !samples.CoExactly(own, want) {
				t.Errorf("%s: %v", text, own)
			}
			if counting := pieces.Counting(c); counting.Kind != want.Kind || counting.Label != want.Label || counting.Neg != want.Neg || !types.Same(counting.Type, want.Type) || !types.Same(counting.To, want.To) || len(counting.Kids) != len(want.Kids) {
				t.Errorf("%s: %v counts", text, counting)
			}
			if samples.Shares(samples.CoLists(own), slices.Concat(samples.CoLists(c), samples.CoLists(again))) || samples.Shares(samples.CoTypeLists(own), slices.Concat(samples.CoTypeLists(want), samples.CoTypeLists(again))) {
				t.Errorf("%s: a list is shared", text)
			}
		}
	}
}
