package order_test

import (
	"slices"
	"strings"
	"testing"

	"lychgate/api"
	"lychgate/terms"
)

// annotated are terms of all sorts that have annotations; A and B stand where types do.
var annotated = []string{
	`\x:A.x`, `rec f(x:A):B.f(x)`, `let x:A=1 in x`, `inl {A} 1`, `inr {B} true`, `x:A`,
	`(\x:A.x)(1)`, `f(\x:A.x)`, `\x:A.\y:B.x`, `rec f(x:A):B.x:A`, `let x:?=(1:A) in x`, `let x:?=1 in (x:B)`,
	`if (x:A) then y else z`, `if x then (y:A) else z`, `if x then y else (z:A)`, `[x:A, y]`, `[x, y:B]`, `fst (x:A)`, `snd (x:B)`,
	`inl {? + ?} (x:A)`, `inr {? + ?} (x:B)`, `case (x:A) of y.y | z.z`, `case x of y.(y:A) | z.z`, `case x of y.y | z.(z:B)`,
	`(x:A) + 1`, `1 - (x:A)`, `(x:A) * y`, `x / (y:B)`, `(x:A) < y`, `x = (y:B)`, `x:A:B`,
}

// filled is one of annotated with two types in it.
func filled(text, a, b string) api.Term {
	return term(strings.NewReplacer("A", a, "B", b).Replace(text))
}

// P7.3: this test and those behind it.
func TestTermsWithAnnotations(t *testing.T) {
	for _, text := range annotated {
		both := strings.Contains(text, "A") && strings.Contains(text, "B")
		for _, x := range []struct {
			less, more string
			strictly   bool
		}{{"?", "int", true}, {"?", "int -> ?", true}, {"? * int", "bool * int", true}, {"int + ?", "int + (? -> ?)", true}, {"int", "int", false}, {"?", "?", false}} {
			lessTerms(t, filled(text, x.less, x.less), filled(text, x.more, x.more), true)
			lessTerms(t, filled(text, x.more, x.more), filled(text, x.less, x.less), !x.strictly)
			if both {
				lessTerms(t, filled(text, x.less, x.more), filled(text, x.more, x.more), true)
				lessTerms(t, filled(text, x.more, x.less), filled(text, x.more, x.more), true)
				lessTerms(t, filled(text, x.less, x.more), filled(text, x.more, x.less), !x.strictly)
				lessTerms(t, filled(text, x.more, x.less), filled(text, x.less, x.more), !x.strictly)
			}
		}
		for _, x := range [][2]string{{"int", "bool"}, {"? -> ?", "? * ?"}, {"int -> ?", "? -> int"}, {"int + bool", "int"}} {
			lessTerms(t, filled(text, x[0], x[0]), filled(text, x[1], x[1]), false)
		}
	}
}

// texts tell terms each of which differs from each other one in more than annotations.
var texts = []string{
	`x`, `y`, `1`, `2`, `-1`, `true`, `false`, `\x:?.x`, `\y:?.y`, `\x:?.y`, `rec f(x:?):?.x`, `rec f(y:?):?.y`, `rec f(y:?):?.x`, `rec g(x:?):?.x`,
	`x(y)`, `y(x)`, `x(y)(y)`, `let x:?=y in y`, `let y:?=y in y`, `let x:?=x in y`, `let x:?=y in x`, `if x then y else y`, `if y then y else y`, `if x then x else y`, `if x then y else x`,
	`[x, y]`, `[y, x]`, `fst x`, `fst y`, `snd x`, `inl {?} x`, `inl {?} y`, `inr {?} x`,
	`case x of x.x | x.x`, `case y of x.x | x.x`, `case x of y.x | x.x`, `case x of x.y | x.x`, `case x of x.x | y.x`, `case x of x.x | x.y`,
	`x + y`, `x - y`, `x * y`, `x / y`, `x < y`, `x = y`, `y + x`, `x + 1`, `x : ?`, `y : ?`, `x : ? : ?`, `(x : ?) + y`, `(\x:?.x)(y)`, `\x:?.\x:?.x`,
}

func TestTermsThatDifferInMore(t *testing.T) {
	for n, a := range texts {
		for m, b := range texts {
			lessTerms(t, term(a), term(b), n == m)
			lessTerms(t, term(`\z:?.`+a), term(`\z:int.`+b), n == m)
		}
	}
}

// everyKind is a term of each kind, that of Cast last.
func everyKind() []api.Term {
	var all []api.Term
	for _, text := range []string{`x`, `1`, `true`, `false`, `\x:?.x`, `rec f(x:?):?.x`, `x(y)`, `let x:?=y in x`, `if x then y else z`, `[x, y]`, `fst x`, `snd x`, `inl {?} x`, `inr {?} x`, `case x of y.y | z.z`, `x + y`, `x : ?`} {
		all = append(all, term(text))
	}
	return append(all, api.Term{Kind: api.Cast, Label: 1, Type: integer(), To: unknown(), Kids: []api.Term{term(`x`)}})
}

// What does not count makes no difference: nor do places.
func TestTermsWithFieldsThatDoNotCount(t *testing.T) {
	for n, x := range everyKind() {
		if int(x.Kind) != n {
			t.Fatalf("the test's own term: kind %d at %d", x.Kind, n)
		}
		if x.Kind == api.Cast {
			continue
		}
		y := x
		y.At, y.Label = x.At+100, 7
		if terms.Bare(x).Name == "" {
			y.Name = "in"
		}
		if x.Arg == "" {
			y.Arg = "in"
		}
		if x.Kind != api.Num {
			y.Num = 5
		}
		if !slices.Contains([]int8{api.Lam, api.Rec, api.Let, api.Inl, api.Inr, api.Is}, x.Kind) {
			y.Type = of(99)
		}
		if x.Kind != api.Rec {
			y.To = endless(api.Fun)
		}
		lessTerms(t, x, y, true)
		lessTerms(t, y, x, true)
	}
}

// around are the terms in which x stands as each kid of each kind.
func around(x api.Term) []api.Term {
	all := []api.Term{x}
	for _, outer := range everyKind() {
		for n := range outer.Kids {
			y := outer
			y.Kids = slices.Clone(outer.Kids)
			y.Kids[n] = x
			all = append(all, y)
		}
	}
	return all
}

func TestTermsWithCasts(t *testing.T) {
	all := everyKind()
	cast := all[api.Cast]
	known := cast
	known.To = integer()
	without := around(cast.Kids[0])
	for n, x := range around(cast) {
		lessTerms(t, x, x, false)
		lessTerms(t, x, without[n], false)
		lessTerms(t, without[n], x, false)
		lessTerms(t, x, around(known)[n], false)
	}
	for _, x := range all {
		lessTerms(t, x, cast, false)
		lessTerms(t, cast, x, false)
	}
}

// noTerms are no terms, for all sorts of causes.
func noTerms() []api.Term {
	x := term(`x`)
	fst := func(n int, x api.Term) api.Term {
		for range n {
			x = api.Term{Kind: api.Fst, Kids: []api.Term{x}}
		}
		return x
	}
	twice := func(n int, x api.Term) api.Term {
		for range n {
			x = api.Term{Kind: api.Two, Kids: []api.Term{x, x}}
		}
		return x
	}
	within := make([]api.Term, 2)
	within[0], within[1] = x, api.Term{Kind: api.Two, Kids: within}
	return []api.Term{
		{}, {Name: "in"}, {Kind: 18}, {Kind: -1}, {Kind: 18, Kids: []api.Term{x}}, {Name: "x", Kids: []api.Term{x}},
		{Kind: api.Lam, Name: "x"}, {Kind: api.Lam, Kids: []api.Term{x}}, {Kind: api.Lam, Name: "x", Type: of(api.Fun), Kids: []api.Term{x}},
		{Kind: api.Rec, Name: "f", Arg: "x", To: of(api.Unknown, unknown()), Kids: []api.Term{x}}, {Kind: api.Rec, Name: "f", Kids: []api.Term{x}},
		{Kind: api.Op, Name: "%", Kids: []api.Term{x, x}}, {Kind: api.App, Kids: []api.Term{x}}, {Kind: api.Is, Type: endless(api.Pair), Kids: []api.Term{x}},
		{Kind: api.Cast, Kids: []api.Term{x}}, {Kind: api.Cast, Label: 1 << 32, Kids: []api.Term{x}},
		fst(200, x), fst(9000, x), twice(13, x), twice(40, x), within[1],
		{Kind: api.Is, Type: down(api.Fun, 200, true, integer()), Kids: []api.Term{x}}, {Kind: api.Is, Type: full(api.Fun, 13, integer()), Kids: []api.Term{x}},
	}
}

func TestWhatIsNoTermIsNotLess(t *testing.T) {
	all := append(noTerms(), everyKind()...)
	for _, a := range noTerms() {
		for _, b := range all {
			lessTerms(t, a, b, false)
			lessTerms(t, b, a, false)
		}
		for _, b := range around(a) {
			lessTerms(t, b, b, false)
		}
	}
}

func TestTermsUpToTheBounds(t *testing.T) {
	is := func(a api.Type) api.Term { return api.Term{Kind: api.Is, Type: a, Kids: []api.Term{term(`x`)}} }
	deep, wide := is(down(api.Fun, 199, true, integer())), is(full(api.Sum, 12, integer()))
	for _, x := range []api.Term{deep, wide} {
		lessTerms(t, x, x, true)
		lessTerms(t, is(unknown()), x, true)
		lessTerms(t, x, is(unknown()), false)
	}
	lessTerms(t, is(down(api.Fun, 199, true, unknown())), deep, true)
	lessTerms(t, is(down(api.Fun, 199, true, boolean())), deep, false)
	lessTerms(t, is(full(api.Sum, 12, unknown())), wide, true)
	lessTerms(t, is(full(api.Sum, 12, boolean())), wide, false)
	x, y := is(unknown()), is(integer())
	for range 198 {
		x, y = api.Term{Kind: api.Snd, Kids: []api.Term{x}}, api.Term{Kind: api.Snd, Kids: []api.Term{y}}
	}
	lessTerms(t, x, y, true)
	lessTerms(t, y, x, false)
}
