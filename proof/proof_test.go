package proof_test

import (
	"errors"
	"strings"
	"testing"

	"lychgate/api"
	"lychgate/proof"
	"lychgate/terms"
)

// P10.1 and P10.2: the chapter's examples.
func TestExamples(t *testing.T) {
	finds(t, term(`\x:?.x+1`), derived("Lam ? -> int (Op int (Var ?, Num int))"))
	finds(t, term(`(1:?)(2)`), derived("App ? (Is ? (Num int), Num int)"))
	findsNone(t, term(`x`), api.ErrProof)
	findsNone(t, term(`true+1`), api.ErrProof)
	proves(t, derived("Num int"), term(`3`), true)
	proves(t, derived("Num ?"), term(`3`), false)
	proves(t, derived("Yes bool"), term(`3`), false)
}

// P10.1 and P10.2: the rules, one by one, where nothing fails.
func TestEveryRule(t *testing.T) {
	for text, want := range map[string]string{
		`0`: "Num int", `-9223372036854775807`: "Num int", `true`: "Yes bool", `false`: "No bool",

		`\x:int.x`: "Lam int -> int (Var int)", `\x:bool.1`: "Lam bool -> int (Num int)", `\x:(int->?)*bool.\y:?.x`: "Lam (int -> ?) * bool -> ? -> (int -> ?) * bool (Lam ? -> (int -> ?) * bool (Var (int -> ?) * bool))",

		`rec f(x:int):bool.f(x)`: "Rec int -> bool (App bool (Var int -> bool, Var int))", `rec f(x:int):?.f`: "Rec int -> ? (Var int -> ?)", `rec f(x:?):int.x`: "Rec ? -> int (Var ?)",
		`rec f(x:?->int):int*?.[1:?, 2]`: "Rec (? -> int) -> int * ? (Two ? * int (Is ? (Num int), Num int))",

		`(\x:int.true)(1:?)`: "App bool (Lam int -> bool (Yes bool), Is ? (Num int))", `(\x:?.x)(true)`: "App ? (Lam ? -> ? (Var ?), Yes bool)", `(1:?)(2)(3)`: "App ? (App ? (Is ? (Num int), Num int), Num int)",

		`let x:?=1 in [x,true]`: "Let ? * bool (Num int, Two ? * bool (Var ?, Yes bool))", `let x:int=(true:?) in 1<x`: "Let bool (Is ? (Yes bool), Op bool (Num int, Var int))", `let x:?->int=\x:bool.(x:?) in x`: "Let ? -> int (Lam bool -> ? (Is ? (Var bool)), Var ? -> int)",

		`if true then 1 else (2:?)`: "If int (Yes bool, Num int, Is ? (Num int))", `if (1:?) then (1:?) else true`: "If bool (Is ? (Num int), Is ? (Num int), Yes bool)",
		`if false then [1:?, 2] else [true, 3:?]`: "If bool * int (No bool, Two ? * int (Is ? (Num int), Num int), Two bool * ? (Yes bool, Is ? (Num int)))",

		`[1, [true, 2]]`: "Two int * (bool * int) (Num int, Two bool * int (Yes bool, Num int))", `[[1, true], 2]`: "Two int * bool * int (Two int * bool (Num int, Yes bool), Num int)",
		`fst [1, true]`: "Fst int (Two int * bool (Num int, Yes bool))", `snd [1, true]`: "Snd bool (Two int * bool (Num int, Yes bool))", `fst (1:?)`: "Fst ? (Is ? (Num int))", `snd (1:?)`: "Snd ? (Is ? (Num int))",

		`inl{int+bool}1`: "Inl int + bool (Num int)", `inr{int+bool}true`: "Inr int + bool (Yes bool)", `inl{?}true`: "Inl ? + ? (Yes bool)", `inr{?}1`: "Inr ? + ? (Num int)",
		`inl{int*?+bool}(1:?)`: "Inl int * ? + bool (Is ? (Num int))", `inr{int+(?->bool)}(1:?)`: "Inr int + (? -> bool) (Is ? (Num int))",

		`case inl{int+bool}1 of x.x<2|y.y`: "Case bool (Inl int + bool (Num int), Op bool (Var int, Num int), Var bool)", `case (1:?) of x.x | y.2`: "Case int (Is ? (Num int), Var ?, Num int)",
		`case inl{int+bool}1 of x.[x, 1:?] | x.[1:?, x]`: "Case int * bool (Inl int + bool (Num int), Two int * ? (Var int, Is ? (Num int)), Two ? * bool (Is ? (Num int), Var bool))",

		`1+2`: "Op int (Num int, Num int)", `1-2`: "Op int (Num int, Num int)", `1*2`: "Op int (Num int, Num int)", `1/0`: "Op int (Num int, Num int)", `1<2`: "Op bool (Num int, Num int)", `1=2`: "Op bool (Num int, Num int)",
		`(true:?)+1`: "Op int (Is ? (Yes bool), Num int)", `1=(true:?)`: "Op bool (Num int, Is ? (Yes bool))",

		`1:int`: "Is int (Num int)", `1:?:bool`: "Is bool (Is ? (Num int))", `(\x:?.x):int->bool`: "Is int -> bool (Lam ? -> ? (Var ?))",
	} {
		finds(t, term(text), derived(want))
	}
}

// P10.2: what is around a kid: the last one of a name is the one, and no kid knows what is around another one.
func TestWhatIsAround(t *testing.T) {
	for text, want := range map[string]string{
		`\x:int.\x:bool.x`: "Lam int -> bool -> bool (Lam bool -> bool (Var bool))", `\x:int.[(\x:bool.x)(true), x]`: "Lam int -> bool * int (Two bool * int (App bool (Lam bool -> bool (Var bool), Yes bool), Var int))",
		`rec x(x:int):int.x`: "Rec int -> int (Var int)", `\x:bool.rec x(y:int):?.x`: "Lam bool -> int -> ? (Rec int -> ? (Var int -> ?))", `\f:?.rec f(x:?):?.[f, x]`: "Lam ? -> ? -> ? (Rec ? -> ? (Two (? -> ?) * ? (Var ? -> ?, Var ?)))",
		`\x:int.let x:bool=x<1 in x`: "Lam int -> bool (Let bool (Op bool (Var int, Num int), Var bool))", `let x:int=1 in let x:?=x in x`: "Let ? (Num int, Let ? (Var int, Var ?))",
		`\x:?.case inl{bool+int}true of x.x | y.x`: "Lam ? -> bool (Case bool (Inl bool + int (Yes bool), Var bool, Var ?))", `\x:?.case inl{bool+int}true of y.x | x.x`: "Lam ? -> int (Case int (Inl bool + int (Yes bool), Var ?, Var int))",
		`\x:int.case x:? of x.x | x.x`:                       "Lam int -> ? (Case ? (Is ? (Var int), Var ?, Var ?))",
		`\a:int.\b:bool.[\a:?.[a, b], [\b:?*?.[a, b], a]]`:   "Lam int -> bool -> (? -> ? * bool) * ((? * ? -> int * (? * ?)) * int) (Lam bool -> (? -> ? * bool) * ((? * ? -> int * (? * ?)) * int) (Two (? -> ? * bool) * ((? * ? -> int * (? * ?)) * int) (Lam ? -> ? * bool (Two ? * bool (Var ?, Var bool)), Two (? * ? -> int * (? * ?)) * int (Lam ? * ? -> int * (? * ?) (Two int * (? * ?) (Var int, Var ? * ?)), Var int))))",
		`\a:int.(\b:bool.a)(let a:bool=true in a)`:           "Lam int -> int (App int (Lam bool -> int (Var int), Let bool (Yes bool, Var bool)))",
		`\a:bool.if a then let a:int=1 in a else (a:?:int)`:  "Lam bool -> int (If int (Var bool, Let int (Num int, Var int), Is int (Is ? (Var bool))))",
		`\x:?.\y:int.case x of z.[x, [y, z]] | y.[x, [y,y]]`: "Lam ? -> int -> ? * (int * ?) (Lam int -> ? * (int * ?) (Case ? * (int * ?) (Var ?, Two ? * (int * ?) (Var ?, Two int * ? (Var int, Var ?)), Two ? * (? * ?) (Var ?, Two ? * ? (Var ?, Var ?)))))",
	} {
		finds(t, term(text), derived(want))
	}
	for text, spoilt := range map[string]string{
		`\x:int.\x:bool.x`: "Lam int -> bool -> int (Lam bool -> int (Var int))", `rec x(x:int):?.x`: "Rec int -> ? (Var int -> ?)", `\x:int.let x:bool=x<1 in x`: "Lam int -> int (Let int (Op bool (Var int, Num int), Var int))",
		`\x:int.let x:?=x in 1`: "Lam int -> int (Let int (Var ?, Num int))", `\x:?.case inl{int+?}1 of x.x | y.y`: "Lam ? -> ? (Case ? (Inl int + ? (Num int), Var ?, Var ?))", `case inl{int+bool}1 of x.x | y.x`: "Case int (Inl int + bool (Num int), Var int, Var int)",
		`[let x:int=1 in x, x]`: "Two int * int (Let int (Num int, Var int), Var int)", `(\x:int.1)(x)`: "App int (Lam int -> int (Num int), Var int)", `case (1:?) of x.x | y.[x, y]`: "Case ? * ? (Is ? (Num int), Var ?, Two ? * ? (Var ?, Var ?))",
	} {
		proves(t, derived(spoilt), term(text), false)
	}
}

// P10.1 and P10.2: each failure of each rule, where it alone stands. At the mark @ a closed term, or a type, is put; with the good ones nothing fails, with the other ones the term has a derivation, but another one.
func TestEachFailure(t *testing.T) {
	for _, c := range []struct{ text, derivation, good, fails, other string }{
		{`rec f(x:int):bool.@`, "Rec int -> bool (@)", `true; 1:?; 1<2`, `1; [true, true]; \x:bool.x; \x:?.x`, ``},
		{`rec f(x:int):?*int.@`, "Rec int -> ? * int (@)", `[1, 2]; [true, 1:?]; 1:?`, `[1, true]; 1; inl{?*int+?}[1, 2]`, ``},
		{`(@)(1)`, "App ? (@, Num int)", `1:?; \x:int.(x:?); \x:?.x`, `1; true; [1, 2]; inl{?}1; \x:bool.(x:?)`, ``},
		{`(\x:int->?.x)(@)`, "App int -> ? (Lam (int -> ?) -> int -> ? (Var int -> ?), @)", `\x:int.x; \x:?.true; 1:?`, `\x:bool.x; 1; [1, 2]`, ``},
		{`let x:int=@ in true`, "Let bool (@, Yes bool)", `1; true:?`, `true; \x:int.x; [1, 2]`, ``},
		{`if @ then 1 else 2`, "If int (@, Num int, Num int)", `true; 1<2; 1:?`, `1; [true, true]; \x:?.true; inr{?}true`, ``},
		{`if true then 1 else @`, "If int (Yes bool, Num int, @)", `1; true:?`, `true; [1, 1]; \x:int.x`, ``},
		{`if true then @ else 1`, "If int (Yes bool, @, Num int)", `1; true:?`, `true; [1, 1]; \x:int.x`, ``},
		{`fst @`, "Fst ? (@)", `1:?; [1:?, 2]`, `1; true; \x:?.x; inl{?}1`, ``},
		{`snd @`, "Snd ? (@)", `1:?; [1, 2:?]`, `1; true; \x:?.x; inl{?}1`, ``},
		{`inl{@}1`, "Inl ? + ? (Num int)", `?; ?+?`, `int; bool; ?->?; ?*?`, ``},
		{`inr{@}1`, "Inr ? + ? (Num int)", `?; ?+?`, `int; bool; ?->?; ?*?`, ``},
		{`inl{@}1`, "Inl @ (Num int)", `?+?; int+bool; ?+bool`, `int; int->int; int*int; bool+int; (int+int)+?`, `?`},
		{`inr{@}1`, "Inr @ (Num int)", `?+?; bool+int; bool+?`, `int; int->int; int*int; int+bool; ?+(int+int)`, `?`},
		{`inl{int+bool}@`, "Inl int + bool (@)", `1; true:?`, `true; [1, true]; inl{int+bool}1`, ``},
		{`inr{int+bool}@`, "Inr int + bool (@)", `true; 1:?`, `1; [1, true]; inr{int+bool}true`, ``},
		{`case @ of x.1 | y.2`, "Case int (@, Num int, Num int)", `1:?; inl{?}1; inr{int+bool}true`, `1; true; [1, 2]; \x:?.x`, ``},
		{`case @ of x.x | y.y`, "Case ? (@, Var ?, Var ?)", `1:?; inl{?}1`, `1; true; [1:?, 2:?]; \x:?.x; inl{int+bool}1`, `inl{int+?}1; inl{?+int}1; inl{int+int}1`},
		{`case (1:?) of x.1 | y.@`, "Case int (Is ? (Num int), Num int, @)", `1; true:?`, `true; [1, 1]; \x:int.x`, ``},
		{`case (1:?) of x.@ | y.1`, "Case int (Is ? (Num int), @, Num int)", `1; true:?`, `true; [1, 1]; \x:int.x`, ``},
		{`(@)+1`, "Op int (@, Num int)", `1; true:?`, `true; [1, 1]; \x:?.1`, ``}, {`1-(@)`, "Op int (Num int, @)", `1; true:?`, `true; [1, 1]; \x:?.1`, ``},
		{`(@)*1`, "Op int (@, Num int)", `1; true:?`, `true; [1, 1]; \x:?.1`, ``}, {`1/(@)`, "Op int (Num int, @)", `0; true:?`, `true; [1, 1]; \x:?.1`, ``},
		{`(@)<1`, "Op bool (@, Num int)", `1; true:?`, `true; [1, 1]; \x:?.1`, ``}, {`1=(@)`, "Op bool (Num int, @)", `1; true:?`, `true; [1, 1]; \x:?.1`, ``},
		{`(@)=1`, "Op bool (@, Num int)", `1; true:?`, `true; inl{int+?}1; \x:?.1`, ``}, {`1<(@)`, "Op bool (Num int, @)", `1; true:?`, `true; inr{?}1; \x:?.1`, ``},
		{`(@):int`, "Is int (@)", `1; true:?`, `true; [1, 1]; \x:int.x`, ``}, {`(@):?+int`, "Is ? + int (@)", `inl{?}1; inr{bool+int}1; 1:?`, `inl{int+bool}1; [1, 1]; 1`, ``},
	} {
		put := func(list string, try func(x api.Term, p api.Proof)) {
			for kid := range strings.SplitSeq(list, "; ") {
				if kid != "" {
					try(putIn(c.text, kid), derived(strings.ReplaceAll(c.derivation, "@", kidOf(c.text, kid))))
				}
			}
		}
		put(c.good, func(x api.Term, p api.Proof) { finds(t, x, p) })
		put(c.fails, func(x api.Term, p api.Proof) {
			findsNone(t, x, api.ErrProof)
			proves(t, p, x, false)
			for a := range strings.SplitSeq("?; int; bool; ? -> ?; ? * ?; ? + ?; int -> ?", "; ") {
				proves(t, by(p.Rule, typed(a), p.Kids...), x, false)
			}
		})
		put(c.other, func(x api.Term, p api.Proof) {
			if _, e := proof.Find(x); e != api.OK {
				t.Errorf("%s: %v", shortTerm(x), e)
			}
			proves(t, p, x, false)
		})
	}
}

// putIn is the term of a text with what stands at its mark.
func putIn(text, put string) api.Term {
	if !strings.Contains(text, "{@}") {
		put = "(" + put + ")"
	}
	return term(strings.ReplaceAll(text, "@", put))
}

// kidOf is what stands at the mark of the derivation: that of the term that is put at the mark of the text, or the type.
func kidOf(text, put string) string {
	if strings.Contains(text, "{@}") {
		return put
	}
	p, e := proof.Find(term(put))
	if e != api.OK {
		panic(put)
	}
	return told(p)
}

// P10.1: whatever check.Type tells of a term, Find tells ErrProof.
func TestWhatHasNoDerivation(t *testing.T) {
	for _, text := range []string{
		`x`, `\x:?.y`, `[1, y]`, `let x:int=x in 1`, `(\x:int.x)(x)`, `case (1:?) of x.1 | y.x`, `true+1`, `1(2)`, `fst 1`, `snd snd [1, 2]`, `inl{int}1`, `inr{?->?}1`, `case 1 of x.1 | y.1`,
		`(\x:int.x)(true)`, `rec f(x:int):bool.x`, `rec f(x:int):int.f(true)`, `let x:int=true in x`, `if 1 then 2 else 3`, `if true then 1 else true`, `inl{int+bool}true`, `1:bool`, `\x:int.\x:bool.x+1`, `1:?:int:bool`,
		`(\y:?.1)(fst true)`, `[1, [2, [3, x]]]`,
	} {
		findsNone(t, term(text), api.ErrProof)
	}
}

// noTerms are no terms, with what terms.Check tells of each.
func noTerms() map[api.Errno][]api.Term {
	x := node(api.Yes)
	fst := func(n int, x api.Term) api.Term {
		for range n {
			x = node(api.Fst, x)
		}
		return x
	}
	twice := func(n int, x api.Term) api.Term {
		for range n {
			x = node(api.Two, x, x)
		}
		return x
	}
	is := func(a api.Type) api.Term { return api.Term{Kind: api.Is, Type: a, Kids: []api.Term{x}} }
	within := make([]api.Term, 2)
	within[0], within[1] = x, node(api.Two, within...)
	return map[api.Errno][]api.Term{
		api.ErrTerm: {
			{}, {Name: "in"}, {Kind: 18}, {Kind: -1}, {Kind: 127}, {Kind: -128}, {Kind: 18, Kids: []api.Term{x}}, {Name: "x", Kids: []api.Term{x}},
			node(api.Yes, x), node(api.Num, x), node(api.No, x, x), node(api.App, x), node(api.App), node(api.If, x, x), node(api.Case, x, x, x), node(api.Two, x, x, x), node(api.Two), node(api.Fst), node(api.Snd, x, x),
			{Kind: api.Lam, Name: "x"}, {Kind: api.Lam, Kids: []api.Term{x}}, {Kind: api.Lam, Name: "x", Type: of(api.Fun), Kids: []api.Term{x}}, {Kind: api.Lam, Name: strings.Repeat("x", 65), Kids: []api.Term{x}},
			{Kind: api.Rec, Name: "f", Arg: "x", To: of(api.Unknown, unknown()), Kids: []api.Term{x}}, {Kind: api.Rec, Name: "f", Kids: []api.Term{x}}, {Kind: api.Rec, Arg: "x", Kids: []api.Term{x}},
			{Kind: api.Let, Name: "x", Kids: []api.Term{x}}, {Kind: api.Let, Name: "1", Kids: []api.Term{x, x}}, {Kind: api.Case, Name: "x", Kids: []api.Term{x, x, x}},
			{Kind: api.Op, Name: "%", Kids: []api.Term{x, x}}, {Kind: api.Op, Kids: []api.Term{x, x}}, {Kind: api.Op, Name: "+", Kids: []api.Term{x}}, {Kind: api.Inl, Type: of(6), Kids: []api.Term{x}}, is(of(api.Int, unknown())), is(of(-1)),
			fst(199, api.Term{}), twice(12, api.Term{}),
		},
		api.ErrTooDeep: {fst(200, x), fst(8000, x), fst(200, api.Term{}), is(chain(api.Fun, 200, true, integer())), is(chain(api.Sum, 4000, false, integer())), fst(180, is(chain(api.Pair, 20, true, integer())))},
		api.ErrTooBig:  {fst(8192, x), twice(13, x), twice(40, x), twice(13, api.Term{}), within[1], is(full(api.Fun, 13, integer())), is(full(api.Fun, 50, integer())), is(endless(api.Pair)), is(endless(99))},
	}
}

// P10.1 and P10.2: what is no term is refused with terms.Check's error, and nothing is a derivation of it.
func TestWhatIsNoTerm(t *testing.T) {
	for code, all := range noTerms() {
		for _, x := range all {
			if e := terms.Check(x); e != code {
				t.Fatalf("the test's own term: %v, not %v", e, code)
			}
			findsNone(t, x, code)
			unbound := node(api.Two, name("y"), x)
			findsNone(t, unbound, terms.Check(unbound))
			proves(t, api.Proof{}, x, false)
			for _, kind := range everyKind() {
				x.Kind = kind.Kind
				if terms.Check(x) != api.OK {
					proves(t, likely(x, 5), x, false)
				}
			}
		}
	}
}

// likely is what would be a derivation of x, if it were a term, and all in it of the type that is told of it; no more than so many deep.
func likely(x api.Term, deep int) api.Proof {
	p := by(ruleOf(x.Kind), unknown())
	switch x.Kind {
	case api.Num:
		p.Type = integer()
	case api.Yes, api.No:
		p.Type = boolean()
	case api.Lam:
		p.Type = of(api.Fun, x.Type, boolean())
	case api.Rec:
		p.Type = of(api.Fun, x.Type, x.To)
	case api.Two:
		p.Type = of(api.Pair, boolean(), boolean())
	case api.Op:
		p.Type = integer()
	case api.Inl, api.Inr, api.Is:
		p.Type = x.Type
	}
	for _, kid := range x.Kids {
		if deep > 0 {
			p.Kids = append(p.Kids, likely(kid, deep-1))
		}
	}
	return p
}

// P10.1 and P10.2: terms that are derived, but for one thing by which they are no terms.
func TestDerivedButForTheTerm(t *testing.T) {
	one, yes := term(`1`), term(`true`)
	for _, c := range []struct {
		derivation string
		x          api.Term
	}{
		{"Lam int -> int (Num int)", api.Term{Kind: api.Lam, Name: "in", Type: integer(), Kids: []api.Term{one}}},
		{"Lam ? -> int (Num int)", api.Term{Kind: api.Lam, Kids: []api.Term{one}}},
		{"Rec ? -> int (Num int)", api.Term{Kind: api.Rec, Name: "f", Arg: "1", To: integer(), Kids: []api.Term{one}}},
		{"Op int (Num int, Num int)", api.Term{Kind: api.Op, Name: "%", Kids: []api.Term{one, one}}},
		{"Case int (Is ? (Num int), Num int, Num int)", api.Term{Kind: api.Case, Name: "x", Kids: []api.Term{term(`1:?`), one, one}}},
		{"Num int (Num int)", node(api.Num, one)},
		{"Yes bool (Yes bool)", node(api.Yes, yes)},
		{"Fst int (Two int * bool (Num int, Yes bool), Num int)", node(api.Fst, term(`[1, true]`), one)},
		{"Is int (Num int)", api.Term{Kind: api.Is, Type: of(api.Int, unknown()), Kids: []api.Term{one}}},
	} {
		findsNone(t, c.x, api.ErrTerm)
		proves(t, derived(c.derivation), c.x, false)
	}
	deep, p := one, derived("Num int")
	for range 199 {
		deep, p = api.Term{Kind: api.Is, Kids: []api.Term{deep}}, by("Is", unknown(), p)
	}
	finds(t, deep, p)
	deep, p = api.Term{Kind: api.Is, Kids: []api.Term{deep}}, by("Is", unknown(), p)
	findsNone(t, deep, api.ErrTooDeep)
	proves(t, p, deep, false)

	broad, p := term(`1:?`), derived("Is ? (Num int)") // 3 nodes
	for range 11 {
		broad, p = api.Term{Kind: api.Op, Name: "+", Kids: []api.Term{broad, broad}}, by("Op", integer(), p, p)
	}
	finds(t, broad, p)
	if nodes := terms.Nodes(broad); nodes != 8191 {
		t.Fatal(nodes)
	}
	broad, p = api.Term{Kind: api.Is, Type: integer(), Kids: []api.Term{broad}}, by("Is", integer(), p) // two nodes more
	findsNone(t, broad, api.ErrTooBig)
	proves(t, p, broad, false)
}

// P10.1 and P10.2: a Cast, wherever it is: ErrTerm, behind terms.Check's errors and ahead of ErrProof, and no derivation.
func TestCasts(t *testing.T) {
	cast := everyKind()[api.Cast]
	cast.Kids = []api.Term{term(`1`)}
	for _, x := range around(cast) {
		findsNone(t, x, api.ErrTerm)
		findsNone(t, node(api.Two, name("y"), x), api.ErrTerm)
		findsNone(t, node(api.Two, x, term(`fst true`)), api.ErrTerm)
		deep, broad := x, node(api.Two, x, x)
		for range 200 {
			deep = node(api.Snd, deep)
		}
		for range 13 {
			broad = node(api.Two, broad, broad)
		}
		findsNone(t, deep, api.ErrTooDeep)
		findsNone(t, broad, api.ErrTooBig)
	}
	for _, rule := range []string{"", "Cast", "Is", "Num", "?"} {
		for _, a := range []api.Type{unknown(), integer()} {
			p := by(rule, a, derived("Num int"))
			proves(t, p, cast, false)
			proves(t, by("Two", of(api.Pair, integer(), a), derived("Num int"), p), node(api.Two, term(`1`), cast), false)
			proves(t, by("Is", unknown(), p), api.Term{Kind: api.Is, Kids: []api.Term{cast}}, false)
		}
	}
}

// P10.1 and P10.2: fields that do not count make no difference.
func TestFieldsThatDoNotCount(t *testing.T) {
	for _, text := range []string{`\x:?.x+1`, `rec f(x:int):bool.f(x)`, `if true then 1 else (2:?)`, `case inl{?}1 of x.fst x | y.2`, `let x:int=1 in [snd [x, false], true]`, `inr{int+?}(1<2)`} {
		p, e := proof.Find(term(text))
		if e != api.OK {
			t.Fatal(text, e)
		}
		finds(t, littered(term(text)), p)
		finds(t, terms.Bare(term(text)), p)
	}
}

// littered is x with something in all that does not count.
func littered(x api.Term) api.Term {
	x.Label, x.At = 3, -9
	bare := terms.Bare(x)
	if bare.Name == "" {
		x.Name = "in"
	}
	if bare.Arg == "" {
		x.Arg = "1"
	}
	if x.Kind != api.Num {
		x.Num = 5
	}
	switch x.Kind {
	case api.Lam, api.Let, api.Inl, api.Inr, api.Is:
		x.To = endless(api.Fun)
	case api.Rec:
	default:
		x.Type, x.To = of(99), endless(api.Sum)
	}
	return over(x, littered)
}

// P10.2, R1, R10: derivations and types in them that lie within themselves, or that are none, are told from others in good time.
func TestProofsThatAreNone(t *testing.T) {
	kids := make([]api.Proof, 2)
	kids[0], kids[1] = derived("Num int"), by("Two", of(api.Pair, integer(), integer()), kids...)
	shared := derived("Num int")
	for range 60 {
		shared = by("Two", of(api.Pair, shared.Type, shared.Type), shared, shared)
	}
	pair, deep := term(`[1, 2]`), term(`1`)
	for range 10 {
		deep = node(api.Two, deep, deep)
	}
	for _, p := range []api.Proof{{}, kids[1], shared, by("Two", endless(api.Pair), kids...), by("Num", integer(), kids...), by("", unknown()), by("Is", unknown(), kids[1])} {
		for _, x := range append(everyKind(), pair, deep, node(api.Two, pair, pair), term(`1:?`), term(`[1, 2]:?`), api.Term{}) {
			proves(t, p, x, false)
		}
	}
	for _, a := range []api.Type{
		endless(api.Pair), endless(99), full(api.Fun, 50, integer()), full(api.Pair, 14, integer()), chain(api.Fun, 201, true, integer()), chain(api.Fun, 9000, false, integer()), of(api.Fun), of(api.Int, integer()), of(api.Pair, integer()), of(6), of(-1), of(api.Fun, integer(), of(6)),
	} {
		for _, text := range []string{`1`, `1:?`, `\x:int.1`, `rec f(x:int):?.1`, `(1:?)(2)`, `let x:?=1 in x`, `if true then 1 else 2`, `[1, 2]`, `fst [1, 2]`, `snd [1, 2]`, `inl{?}1`, `inr{?}1`, `case inl{?}1 of x.1 | y.y`, `1+2`} {
			p, e := proof.Find(term(text))
			if e != api.OK {
				t.Fatal(text, e)
			}
			for _, q := range retyped(p, a) {
				proves(t, q, term(text), false)
			}
		}
	}
}

// retyped are p with that type in each place, once alone in the place of each one, and once of all.
func retyped(p api.Proof, a api.Type) []api.Proof {
	all := by(p.Rule, a)
	alone := []api.Proof{by(p.Rule, a, p.Kids...)}
	for n, kid := range p.Kids {
		l := retyped(kid, a)
		all.Kids = append(all.Kids, l[len(l)-1])
		for _, q := range l {
			alone = append(alone, withKid(p, n, q))
		}
	}
	return append(alone, all)
}

// R3: what is handed in stays as it is, with the room behind the ends of its lists.
func TestArgumentsStay(t *testing.T) {
	parts := []api.Type{of(api.Pair, integer(), unknown()), boolean(), of(77), of(78)}
	sum := of(api.Sum, parts[:2]...)
	kids := []api.Term{name("x"), name("x"), name("none"), name("none")}
	body := node(api.Two, kids[:2]...)
	x := api.Term{Kind: api.Lam, Name: "x", Type: sum, Kids: []api.Term{body}}
	want := derived("Lam int * ? + bool -> (int * ? + bool) * (int * ? + bool) (Two (int * ? + bool) * (int * ? + bool) (Var int * ? + bool, Var int * ? + bool))")
	proofs := []api.Proof{by("Var", sum), by("Var", sum), by("none", of(79))}
	p := by("Lam", of(api.Fun, sum, of(api.Pair, sum, sum)), by("Two", of(api.Pair, sum, sum), proofs[:2]...))
	proves(t, p, x, true)
	finds(t, x, p)
	proves(t, by("Two", p.Type, proofs[:2]...), x, false)
	findsNone(t, node(api.Fst, x), api.ErrProof)
	if !same(by("", parts[0]), by("", typed("int * ?"))) || parts[1].Kind != api.Bool || parts[2].Kind != 77 || parts[3].Kind != 78 {
		t.Errorf("types: now %v", parts)
	}
	for n, x := range []string{"x", "x", "none", "none"} {
		if kids[n].Kind != api.Var || kids[n].Name != x || len(kids[n].Kids) != 0 {
			t.Errorf("terms: now %v", kids)
		}
	}
	if !same(p, want) || proofs[2].Rule != "none" || proofs[2].Type.Kind != 79 {
		t.Errorf("derivations: now %v", proofs)
	}
}

// typeLists are the places at which the lists of a type lie, each as often as it is in it.
func typeLists(a api.Type) []any {
	if len(a.Kids) == 0 {
		return nil
	}
	all := []any{&a.Kids[0]}
	for _, kid := range a.Kids {
		all = append(all, typeLists(kid)...)
	}
	return all
}

// proofLists are those of a derivation.
func proofLists(p api.Proof) []any {
	all := typeLists(p.Type)
	for n, kid := range p.Kids {
		if n == 0 {
			all = append(all, &p.Kids[0])
		}
		all = append(all, proofLists(kid)...)
	}
	return all
}

// termLists are those of the annotations of x.
func termLists(x api.Term) []any {
	all := append(typeLists(x.Type), typeLists(x.To)...)
	for _, kid := range x.Kids {
		all = append(all, termLists(kid)...)
	}
	return all
}

// R3: an answer shares no list with what was handed in, nor with itself, nor with another answer.
func TestAnswersShareNothing(t *testing.T) {
	for _, text := range []string{
		`\x:int*int.x`, `\x:?->?.[x, x]`, `rec f(x:int*?):int*?.x`, `rec f(x:int*?):int*?.f(x)`, `let x:int*int=[1, 2] in [x, x]`, `let x:?*?=[1, 2] in x`, `[1, 2]:?*?`, `inl{(?->?)+(?->?)}(\x:?.x)`, `inl{?}1`,
		`if true then \x:?*?.x else \x:?.x`, `let x:?*?=[1, 2] in if true then x else x`, `let x:?*?=[1, 2] in if true then (1:?) else x`, `let x:?*?=[1, 2] in if true then x else (1:?)`, `case (1:?) of x.[1, x] | y.[y, y]`,
		`fst ([1:?, 2]:(?*?)*?)`, `(1:int:?:?->?*?)(1)`, `case inl{(?*?)+(?*?)}[1, 2] of x.[x, x] | x.[x, x]`, `case (1:?) of x.[x, 1] | y.([1:?, 2]:?)`,
	} {
		x := term(text)
		first, e := proof.Find(x)
		second, eToo := proof.Find(x)
		if e != api.OK || eToo != api.OK {
			t.Fatal(text, e, eToo)
		}
		seen := map[any]int{}
		for _, list := range append(append(proofLists(first), proofLists(second)...), termLists(x)...) {
			seen[list]++
		}
		for _, list := range append(proofLists(first), proofLists(second)...) {
			if seen[list] > 1 {
				t.Errorf("%s: %s shares a list", text, told(first))
			}
		}
		third, _ := proof.Find(x)
		spoil(first)
		if !same(second, third) {
			t.Errorf("%s: %s, %s", text, told(second), told(third))
		}
		finds(t, x, third)
	}
}

// spoil writes into all lists of p, and into the room behind their ends.
func spoil(p api.Proof) {
	spoilType(p.Type)
	for n, kid := range p.Kids {
		spoil(kid)
		p.Kids[n] = by("none", of(99))
	}
	_ = append(p.Kids, by("none", of(99)))
}

func spoilType(a api.Type) {
	for n, kid := range a.Kids {
		spoilType(kid)
		a.Kids[n] = of(99)
	}
	_ = append(a.Kids, of(99))
}

// R2: how many goroutines work changes no answer, and nothing is left behind.
func TestManyAtATime(t *testing.T) {
	good, bad, deep := term(`\x:int.[\y:?.[x, y], \y:bool.[y, x]]`), term(`\x:int.[\y:bool.y, y]`), noTerms()[api.ErrTooBig][2]
	want, e := proof.Find(good)
	if e != api.OK {
		t.Fatal(e)
	}
	done := make(chan error)
	for range 8 {
		go func() {
			var all error
			for range 200 {
				p, e := proof.Find(good)
				_, eBad := proof.Find(bad)
				_, eDeep := proof.Find(deep)
				if e != api.OK || !same(p, want) || !proof.Proves(want, good) || proof.Proves(want, bad) || eBad != api.ErrProof || eDeep != api.ErrTooBig {
					all = errors.Join(all, errors.New("another answer"), e, eBad, eDeep)
				}
			}
			done <- all
		}()
	}
	for range 8 {
		if err := <-done; err != nil {
			t.Error(err)
		}
	}
}
