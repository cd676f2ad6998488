package kernel_test

import (
	"slices"
	"strings"
	"testing"

	"lychgate/api"
	"lychgate/kernel"
	"lychgate/samples"
	"lychgate/terms"
	"lychgate/types"
)

// P13.1: the chapter's examples, and those of chapter 12.
func TestExamples(t *testing.T) {
	takesText(t, `3:int:?`, "?")
	refusesText(t, `3:int:bool`, api.ErrCast)
	refusesText(t, `3:bool:?`, api.ErrCast)
	refusesText(t, `(3:int:?:?:?->?)(4)`, api.ErrCast)
	takesText(t, `(3:int:?:?:?->?)(4:int:?)`, "?")
	refuses(t, cast(integer(), unknown(), 0, term(`3`)), api.ErrTerm)
	refusesText(t, `3:int`, api.ErrTerm)
	takesText(t, `(\x:?.(x:?:int)+1)(2:int:?)`, "int")
	takesText(t, `inl{?+?}(true:bool:?)`, "? + ?")
	takesText(t, `if true then 1 else (2:int:?:?:int)`, "int")
	takesText(t, `\x:int.x`, "int -> int")
}

// P13.1: what each row of the rules takes.
func TestTaken(t *testing.T) {
	for text, want := range map[string]string{
		`1`: "int", `true`: "bool", `false`: "bool",
		`\x:?.x`: "? -> ?", `\x:int.true`: "int -> bool", `\x:int->?.[x, x]`: "(int -> ?) -> (int -> ?) * (int -> ?)",
		`rec f(x:?):?.x`: "? -> ?", `rec f(x:?):int->?.\y:int.x`: "? -> int -> ?", `rec f(x:int):bool.f(x)`: "int -> bool",
		`(\x:?.1)(2:int:?)`: "int", `\f:?->?.f(f:?->?:?)`: "(? -> ?) -> ?", `\f:(int->?)->bool.f(\x:int.1:int:?)`: "((int -> ?) -> bool) -> bool",
		`let x:?=1:int:? in x`: "?", `\x:?*?.let y:?=fst x in [y, 1]`: "? * ? -> ? * int", `let f:?->int=\x:?.1 in f`: "? -> int",
		`if true then 1 else 2`: "int", `\x:?.if x:?:bool then x else x`: "? -> ?", `\x:?->int.if true then \y:?.1 else x`: "(? -> int) -> ? -> int",
		`[1, true]`: "int * bool", `\x:?.[x, [x, 1]]`: "? -> ? * (? * int)",
		`fst [1, true]`: "int", `snd [1, true]`: "bool", `\x:?*(?->int).fst x`: "? * (? -> int) -> ?", `\x:?*(?->int).snd x`: "? * (? -> int) -> ? -> int",
		`inl{int+?}1`: "int + ?", `inr{int+?}(1:int:?)`: "int + ?", `inl{(?->?)+int}(\x:?.x)`: "(? -> ?) + int", `inr{?+bool}true`: "? + bool",
		`case inl{int+bool}1 of x.x<1 | y.y`: "bool", `\x:?+int.case x of y.y | z.z:int:?`: "? + int -> ?", `\s:int+bool.case s of x.[x, 1<x] | x.[1, x]`: "int + bool -> int * bool",
		`1+2`: "int", `1-2`: "int", `1*2`: "int", `1/0`: "int", `1<2`: "bool", `1=2`: "bool", `\x:?.(x:?:int)+(x:?:int)`: "? -> int",
		`1:int:int`: "int", `true:bool:?`: "?", `1:int:?:?:?`: "?", `1:int:?:?:bool`: "bool", `\x:?.x:?:?`: "? -> ?",
		`(\x:?.x):?->?:int->bool`: "int -> bool", `(\x:int.x):int->int:?->int`: "? -> int", `[1, true]:int*bool:?*bool`: "? * bool", `inl{int+?}1:int+?:?+bool`: "? + bool", `\x:?->(int*?).x:?->(int*?):?`: "(? -> int * ?) -> ?",
		`\x:int.x:int:?`: "int -> ?", `(rec f(x:int):?.f(x)):int->?:?->int`: "? -> int",
	} {
		takesText(t, text, want)
	}
}

// P13.1: what each row of the rules refuses. What agrees is not taken for the same.
func TestRefused(t *testing.T) {
	for _, text := range []string{
		`x`, `\x:int.y`, `rec f(x:int):int.g(x)`, `rec f(x:int):int.y`,
		`rec f(x:int):bool.x`, `rec f(x:?):int.x`, `rec f(x:int):?.x`, `rec f(x:int):?->int.\y:int.x`,
		`1(2)`, `(1:int:?)(2)`, `\f:?.f(1)`, `\f:int*int.f(1)`, `(\x:?.x)(1)`, `(\x:int.x)(1:int:?)`, `(\x:int.x)(true)`, `(\f:?->?.f)(\x:int.x)`,
		`let x:?=1 in x`, `let x:int=1:int:? in x`, `let x:int=true in x`, `let x:int=1 in y`, `let x:int->?=\y:int.y in 1`,
		`if 1 then 2 else 3`, `if 1:int:? then 2 else 3`, `if true then 1 else true`, `if true then 1 else (1:int:?)`, `if true then 1:int:? else 1`, `if true then \x:?.x else \x:int.x`,
		`fst 1`, `snd 1`, `fst (1:int:?)`, `snd (1:int:?)`, `fst (\x:int.x)`, `snd inl{int+int}1`,
		`inl{int}1`, `inr{int}1`, `inl{?}1`, `inr{?}1`, `inl{?}(1:int:?)`, `inl{int*int}1`, `inl{?+int}1`, `inr{int+?}1`, `inl{int+bool}true`, `inr{int+bool}1`, `inl{int+int}(1:int:?)`,
		`case 1 of x.x | y.y`, `case 1:int:? of x.x | y.y`, `case [1, 2] of x.x | y.y`, `case inl{int+bool}1 of x.x | y.y`, `case inl{int+?}1 of x.x | y.y`, `case inl{?+int}(1:int:?) of x.x | y.y`, `case inl{int+int}1 of x.y | y.y`, `case inl{int+int}1 of x.x | y.x`,
		`true+1`, `1+true`, `(1:int:?)+1`, `1+(1:int:?)`, `(1:int:?)<1`, `1=(1:int:?)`, `true=true`,
		`1:bool:?`, `1:?:int`, `1:?:?`, `1:int:bool`, `1:int:int->int`, `(\x:int.x):?->?:?`, `(\x:int.x):int->?:?`, `(\x:?.x):?->?:?*?`, `(\x:int.x):int->int:bool->int`, `(\x:int.x):int->int:int->bool`, `[1, true]:int*bool:?*int`, `[1, true]:int*?:?`, `inl{int+bool}1:int+bool:bool+?`, `1:int:?:int:?`, `1:int:?:?:int:?:int`, `x:int:?`, `x:?:?`,
	} {
		refusesText(t, text, api.ErrCast)
		for _, within := range []string{`[1, A]`, `[A, 1]`, `\a:int.A`, `rec a(b:int):int.fst [b, A]`, `(\a:int.a)(snd [A, 1])`, `if true then fst [1, A] else 2`, `fst [1, A]:int:?`, `case inl{int+int}1 of a.1 | b.snd [A, b]`} {
			refusesText(t, strings.Replace(within, "A", "("+text+")", 1), api.ErrCast)
		}
	}
}

// P13.1: a Cast goes from the very type of its kid to one that agrees with that; many of them may stand over one another, as long as each does.
func TestCasts(t *testing.T) {
	all := []string{"int -> int", "? -> int", "? -> ?", "?", "bool -> ?", "int -> bool", "int * ?", "int"}
	apart := map[string]string{
		"int -> int":  "bool -> ?; int -> bool; int * ?; int",
		"? -> int":    "int -> bool; int * ?; int",
		"? -> ?":      "int * ?; int",
		"bool -> ?":   "int -> int; int -> bool; int * ?; int",
		"int -> bool": "int -> int; ? -> int; bool -> ?; int * ?; int",
		"int * ?":     "int -> int; ? -> int; ? -> ?; bool -> ?; int -> bool; int",
		"int":         "int -> int; ? -> int; ? -> ?; bool -> ?; int -> bool; int * ?",
	}
	for _, given := range all {
		for _, from := range all {
			for _, to := range all {
				x := api.Term{Kind: api.Lam, Name: "f", Type: typed(given), Kids: []api.Term{cast(typed(from), typed(to), 1, name("f"))}}
				if given != from || slices.Contains(strings.Split(apart[from], "; "), to) {
					refuses(t, x, api.ErrCast)
				} else {
					takes(t, x, of(api.Fun, typed(given), typed(to)))
				}
			}
		}
	}
	x, from := name("f"), "int -> int"
	for _, to := range []string{"? -> int", "? -> ?", "?", "bool -> ?", "?", "int -> bool"} {
		x = cast(typed(from), typed(to), -7, x)
		takes(t, api.Term{Kind: api.Lam, Name: "f", Type: typed("int -> int"), Kids: []api.Term{x}}, of(api.Fun, typed("int -> int"), typed(to)))
		from = to
	}
}

// What is around a term: the last one of a name is the one, and no kid knows what is around another one.
func TestWhatIsAround(t *testing.T) {
	for text, want := range map[string]string{
		`\x:int.\x:?.x`: "int -> ? -> ?", `\x:int.\y:?.[x, y]`: "int -> ? -> int * ?", `\x:int.[(\x:?.x)(x:int:?), x]`: "int -> ? * int", `\x:int.[\x:?.x, [\y:bool.[x, y], x]]`: "int -> (? -> ?) * ((bool -> int * bool) * int)",
		`rec x(x:?):?.x`: "? -> ?", `rec x(y:?):?.x(y)`: "? -> ?", `\f:?.rec f(x:int):?.f(x)`: "? -> int -> ?", `\x:?.rec f(x:int):int.x`: "? -> int -> int", `\x:?.[rec f(x:int):int.x, x]`: "? -> (int -> int) * ?",
		`\x:int.let x:?=x:int:? in x`: "int -> ?", `\x:int.let y:?=(let x:?=x:int:? in x) in [x, y]`: "int -> int * ?", `\x:?.case inl{int+bool}1 of x.x | y.1`: "? -> int", `\x:?.case inl{int+?}1 of y.[x, y] | x.[x, 1]`: "? -> ? * int",
		`\x:?.[case inl{int+int}1 of x.x | x.x, x]`: "? -> int * ?", `\x:int.[(\x:?.x)(x:int:?):?:int, x]`: "int -> int * int",
	} {
		takesText(t, text, want)
	}
	for _, text := range []string{
		`[\x:int.x, x]`, `(\x:int.x)(x)`, `let x:int=x in x`, `let y:int=(let x:int=1 in x) in x`, `[rec x(y:int):int.y, x]`, `[rec y(x:int):int.x, x]`, `case x of x.x | x.x`, `case inl{int+int}1 of x.x | y.x`, `case inl{int+int}1 of y.x | x.x`,
		`\x:?.\x:int.x:?:int`, `\x:int.[\x:?.x, x:?:int]`, `rec x(x:int):int.x(1)`, `((\x:int.x):int->int:?:?:int)+x`, `[(\x:?.x):?->?:?, x:?:int]`,
	} {
		refusesText(t, text, api.ErrCast)
	}
}

// P13.1: an Is, wherever it is, is refused behind terms.Check's errors, and ahead of what the rules tell.
func TestIs(t *testing.T) {
	is := api.Term{Kind: api.Is, Type: integer(), Kids: []api.Term{term(`1`)}}
	for _, x := range samples.Around(is) {
		refuses(t, x, api.ErrTerm)
		for _, ahead := range []string{`y`, `fst 1`, `1:int:bool`, `1:int:?`} {
			refuses(t, node(api.Two, term(ahead), x), api.ErrTerm)
			refuses(t, node(api.Two, x, term(ahead)), api.ErrTerm)
		}
		deep, broad := x, x
		for range 200 {
			deep = node(api.Snd, deep)
		}
		for range 13 {
			broad = node(api.Two, broad, broad)
		}
		refuses(t, deep, api.ErrTooDeep)
		refuses(t, broad, api.ErrTooBig)
	}
	big := balanced(api.Pair, 2048, integer())
	refuses(t, api.Term{Kind: api.Lam, Name: "x", Type: big, Kids: []api.Term{term(`[[x, [x, x]], 1:int]`)}}, api.ErrTerm)
	is.Type = api.Type{}
	refuses(t, is, api.ErrTerm)
}

// R10: what is no term is refused ahead of all else.
func TestWhatIsNoTerm(t *testing.T) {
	for code, all := range samples.NoTerms() {
		for _, x := range all {
			if e := terms.Check(x); e != code {
				t.Fatalf("the test's own term: %v, not %v", e, code)
			}
			refuses(t, x, code)
			for _, ahead := range []string{`y`, `1:int`, `1:int:bool`, `fst 1`} {
				for _, both := range []api.Term{node(api.Two, term(ahead), x), node(api.Two, x, term(ahead))} {
					refuses(t, both, terms.Check(both))
				}
			}
		}
	}
}

// P13.1: the labels that chapter 3 lets in make no difference, as long as it does.
func TestLabels(t *testing.T) {
	for _, label := range []int{1, -1, 1 << 31, -1 << 31, 77} {
		takes(t, cast(integer(), unknown(), label, term(`1`)), unknown())
		takes(t, cast(unknown(), boolean(), label, cast(integer(), unknown(), label, term(`1`))), boolean())
		takes(t, cast(unknown(), boolean(), label, cast(integer(), unknown(), -label, term(`1`))), boolean())
		refuses(t, cast(boolean(), unknown(), label, term(`1`)), api.ErrCast)
	}
	for _, label := range []int{0, 1<<31 + 1, -1<<31 - 1, 1 << 62, -1 << 63} {
		refuses(t, cast(integer(), unknown(), label, term(`1`)), api.ErrTerm)
		refuses(t, node(api.Fst, cast(boolean(), unknown(), label, term(`1`))), api.ErrTerm)
	}
}

// P13.1: fields that do not count make no difference.
func TestFieldsThatDoNotCount(t *testing.T) {
	for _, text := range []string{`(\x:?.(x:?:int)+1)(2:int:?)`, `rec f(x:?):bool.f(x)`, `if true then 1:int:? else (2:int:?)`, `case inl{int*?+int}[1, 2:int:?] of x.fst x | y.2`, `let x:?=1:int:? in [snd [x, false], true]`, `inr{int+bool}(1<2)`, `[1, true]:int*bool:?`} {
		x := term(text)
		want, e := kernel.Type(x)
		if e != api.OK {
			t.Error(text, e)
		}
		takes(t, samples.Littered(x), want)
	}
	refuses(t, samples.Littered(term(`(\x:?.x+1)(2:int:?)`)), api.ErrCast)
}

// R3: what is handed in stays as it is, with the room behind the ends of its lists.
func TestArgumentsStay(t *testing.T) {
	parts := []api.Type{of(api.Pair, unknown(), boolean()), unknown(), of(77), of(78)}
	sum := of(api.Sum, parts[:2]...)
	kids := []api.Term{name("x"), cast(sum, unknown(), 1, name("x")), name("none"), name("nil")}
	ofLam := []api.Term{node(api.Two, kids[:2]...), name("none")}
	x := api.Term{Kind: api.Lam, Name: "x", Type: sum, Kids: ofLam[:1]}
	takes(t, x, of(api.Fun, sum, of(api.Pair, sum, unknown())))
	refuses(t, node(api.Fst, x), api.ErrCast)
	if !types.Same(parts[0], typed("? * bool")) || !types.Same(parts[1], unknown()) || parts[2].Kind != 77 || parts[3].Kind != 78 {
		t.Errorf("types: now %v", parts)
	}
	if !terms.Same(kids[0], name("x")) || !terms.Same(kids[1], cast(typed("? * bool + ?"), unknown(), 1, name("x"))) || kids[2].Name != "none" || kids[3].Name != "nil" || ofLam[0].Kind != api.Two || ofLam[1].Name != "none" {
		t.Errorf("terms: now %v, %v", kids, ofLam)
	}
}

// R3: an answer shares no list with what was handed in, nor with itself, nor with another answer.
func TestAnswersShareNothing(t *testing.T) {
	for _, text := range []string{`\x:int*?.x`, `\x:int->?.[x, x]`, `rec f(x:?*int):?*int.x`, `\x:?.x:?:(int*bool)->?`, `(\x:?.x):?->?:?->int`, `[1, true]:int*bool:?*bool`, `\x:?*int.if true then x else x`, `inl{(int*?)+(?*int)}[1, 2:int:?]`, `let x:?*int=[1:int:?, 1] in [x, x]`, `case inl{(int*?)+(int*?)}[1, 2:int:?] of x.x | y.y`} {
		x := term(text)
		a, e := kernel.Type(x)
		b, _ := kernel.Type(x)
		if e != api.OK {
			t.Fatal(text, e)
		}
		want := short(a)
		seen := map[*api.Type]int{}
		for _, y := range samples.All(x) {
			for _, list := range append(samples.Lists(y.Type), samples.Lists(y.To)...) {
				seen[list]++
			}
		}
		for _, list := range append(samples.Lists(a), samples.Lists(b)...) {
			seen[list]++
			if seen[list] > 1 {
				t.Errorf("%s shares a list", text)
			}
			list.Kind = 99
		}
		takes(t, x, typed(want))
	}
}

// R2: how many goroutines work changes no answer, and nothing is left behind.
func TestManyAtATime(t *testing.T) {
	good, bad, is, big := term(`\x:?.[\y:int.[(x:?:int)+y, y], (\y:?.y:?:int)(x)]`), term(`\x:?.[\y:int.x+y, y]`), term(`\x:?.[\y:int.x:int, y]`), samples.NoTerms()[api.ErrTooBig][2]
	want := typed("? -> (int -> int * int) * int")
	takes(t, good, want)
	done := make(chan string)
	for range 8 {
		go func() {
			other := ""
			for range 300 {
				a, e := kernel.Type(good)
				_, ofBad := kernel.Type(bad)
				_, ofIs := kernel.Type(is)
				_, ofBig := kernel.Type(big)
				if e != api.OK || !types.Same(a, want) || ofBad != api.ErrCast || ofIs != api.ErrTerm || ofBig != api.ErrTooBig {
					other = short(a) + " " + e.Error() + " " + ofBad.Error() + " " + ofIs.Error() + " " + ofBig.Error()
				}
			}
			done <- other
		}()
	}
	for range 8 {
		if other := <-done; other != "" {
			t.Error(other)
		}
	}
}
