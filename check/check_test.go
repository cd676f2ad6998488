package check_test

import (
	"errors"
	"math"
	"strings"
	"testing"

	"lychgate/api"
	"lychgate/check"
	"lychgate/terms"
	"lychgate/types"
)

// P9.1 and P9.2: the chapter's examples.
func TestExamples(t *testing.T) {
	takesText(t, `\x:?.x+1`, "? -> int")
	refusesText(t, `(\x:int.x)^(true)`, api.ErrAgree, "")
	takesText(t, `(\x:?.x)(true)`, "?")
	takesText(t, `(\x:int.x)(true:?)`, "int")
	takesText(t, `if true then 1 else (2:?)`, "int")
	refusesText(t, `^x`, api.ErrName, "x")
	refusesText(t, `^fst 1`, api.ErrMatch, "")
	refusesText(t, `^inl{int}2`, api.ErrMatch, "")
	takesText(t, `inl{?}2`, "? + ?")
	takesText(t, `case (1:?) of x.x | y.2`, "int")
	takesText(t, `let f:int->int=\x:?.x in f(2)`, "int")
}

// P9.1, this test and those behind it: each row of the chapter's table, where nothing fails.
func TestWhatIsTaken(t *testing.T) {
	for text, want := range map[string]string{
		`0`: "int", `-7`: "int", `9223372036854775807`: "int", `true`: "bool", `false`: "bool",

		`\x:int.x`: "int -> int", `\x:?.x`: "? -> ?", `\x:bool.1`: "bool -> int", `\x:int.\y:bool.x`: "int -> bool -> int", `\x:int->bool.x`: "(int -> bool) -> int -> bool",

		`rec f(x:int):bool.f(x)`: "int -> bool", `rec f(x:int):int.x`: "int -> int", `rec f(x:?):int.x`: "? -> int", `rec f(x:int):?.x`: "int -> ?",
		`rec f(x:int):int->?.f`: "int -> int -> ?", `rec f(x:int):?.f`: "int -> ?", `rec f(x:?):?->bool.f(x)`: "? -> ? -> bool",

		`(\x:int.true)(1)`: "bool", `(\x:?.true)(1)`: "bool", `(\x:int.true)(1:?)`: "bool", `(1:?)(2)`: "?", `(1:?)(true)(3)`: "?", `(\x:int->?.x)(\x:?.true)`: "int -> ?", `(\x:int.\y:bool.x)(1)`: "bool -> int",

		`let x:int=1 in x`: "int", `let x:?=1 in x`: "?", `let x:int=(1:?) in x`: "int", `let x:int=1 in true`: "bool", `let x:?->int=\x:bool.(x:?) in x`: "? -> int",

		`if true then 1 else 2`: "int", `if (1:?) then 1 else 2`: "int", `if true then (1:?) else (2:?)`: "?", `if true then (1:?) else true`: "bool", `if true then 1 else (true:?)`: "int",
		`if false then \x:?.1 else \x:bool.(1:?)`: "bool -> int", `if true then [1:?, 2] else [true, 3:?]`: "bool * int",

		`[1, true]`: "int * bool", `[1:?, [true, 2]]`: "? * (bool * int)", `[[1, true], 2]`: "int * bool * int",
		`fst [1, true]`: "int", `snd [1, true]`: "bool", `fst (1:?)`: "?", `snd (1:?)`: "?", `fst snd [1, [true, 2]]`: "bool", `snd ([1, 2:?]:?*bool)`: "bool",

		`inl{int+bool}1`: "int + bool", `inr{int+bool}true`: "int + bool", `inl{?+bool}1`: "? + bool", `inl{int+?}(true:?)`: "int + ?", `inr{?}1`: "? + ?", `inr{int+(?->bool)}(\x:int.(x:?))`: "int + (? -> bool)",

		`case inl{int+bool}1 of x.x | y.2`: "int", `case inl{int+bool}1 of x.true | y.y`: "bool", `case (1:?) of x.x | y.y`: "?", `case (1:?) of x.1 | y.y`: "int",
		`case inl{int+bool}1 of x.[x, 1:?] | y.[1:?, y]`: "int * bool", `case inl{?}1 of x.x | x.x + 1`: "int", `case inl{int+bool}1 of x.\y:bool.x | y.\y:?.3`: "bool -> int",

		`1+2`: "int", `1-2`: "int", `1*2`: "int", `1/0`: "int", `1<2`: "bool", `1=2`: "bool", `(1:?)+2`: "int", `1-(2:?)`: "int", `(true:?)*(false:?)`: "int", `(1:?)/(2:?)`: "int", `(1:?)<2`: "bool", `1=(true:?)`: "bool",

		`1:int`: "int", `1:?`: "?", `1:?:bool`: "bool", `(\x:?.x):int->bool`: "int -> bool", `[1, true:?]:?*int`: "? * int", `inl{?}1:int+bool`: "int + bool",
	} {
		takesText(t, text, want)
	}
}

// Each failure of each row, where it alone stands.
func TestWhatFails(t *testing.T) {
	for _, text := range []string{
		`^rec f(x:int):bool.x`, `^rec f(x:int):bool.f`, `^rec f(x:int):int.true`, `^rec f(x:?):int->int.\y:bool.y`, `rec f(x:int):int.f^(true)`,
		`(\x:int.x)^(true)`, `(\x:int->int.x)^(1)`, `(\x:int->int.x)^(\x:bool.1)`, `(\x:int.x)(1)+(\x:?*int.1)^([1, true])`,
		`^let x:int=true in x`, `^let x:int->int=1 in x`, `^let x:?*bool=[1, 2] in 1`,
		`^if 1 then 2 else 3`, `^if [true, true] then 2 else 3`, `^if (\x:?.x) then 2 else 3`,
		`^if true then 1 else true`, `^if true then \x:int.1 else \x:bool.1`, `^if true then [1, 2] else \x:?.2`, `^if true then (1:?:int) else (1:?:bool)`,
		`^inl{int+bool}true`, `^inl{(?->?)+?}1`, `^inr{int+bool}1`, `^inr{?+(int*?)}[true, 1]`, `^inr{bool+int}true`,
		`^case inl{int+bool}1 of x.x | y.y`, `^case (1:?) of x.1 | y.true`,
		`true^+1`, `1^+true`, `[1, 2]^-1`, `1^-[1, 2]`, `(\x:?.x)^*1`, `1^*(\x:?.x)`, `true^/1`, `1^/true`, `true^<1`, `1^<true`, `true^=true`, `true^=1`, `1^=true`,
		`1^:bool`, `[1, 2]^:int*bool`, `(\x:int.x)^:?*?`, `1:?:int^:bool`,
	} {
		refusesText(t, text, api.ErrAgree, "")
	}
	for _, text := range []string{
		`1^(2)`, `true^(2)`, `[1, 2]^(2)`, `(inl{?}1)^(2)`, `(\x:int.x)(1)^(2)`,
		`^fst 1`, `^snd true`, `^fst (\x:?.x)`, `^snd inl{?}1`, `^fst snd [1, 2]`, `fst ^snd true`,
		`^inl{int}1`, `^inl{bool}true`, `^inl{int->int}1`, `^inl{int*int}1`, `^inr{int}1`, `^inr{?->?}1`, `^inr{?*?}1`,
		`^case 1 of x.1 | y.1`, `^case true of x.1 | y.1`, `^case [1, 2] of x.1 | y.1`, `^case \x:?+?.x of x.1 | y.1`,
	} {
		refusesText(t, text, api.ErrMatch, "")
	}
	for text, word := range map[string]string{`^x`: "x", `\x:?.^y`: "y", `[1, ^Let]`: "Let", `rec f(x:?):?.^g`: "g", `^_1 : ?`: "_1", `fst ^x_`: "x_", `1 + ^def`: "def"} {
		refusesText(t, text, api.ErrName, word)
	}
}

// Of several failures that one counts which is asked first: the kids from the left, and then what stands here.
func TestWhichFailureIsFirst(t *testing.T) {
	for _, text := range []string{ // a kid's, ahead of another kid's and the own one
		`^x(y)`, `1(^x)`, `true(fst ^x)`, `(\x:int.x)(^x)`, `(\y:bool.^x)(y)`, `let x:int=^x in y`, `let y:bool=1+^x in y`, `if ^x then y else z`, `if 1 then ^x else y`, `if 1 then 2 else ^x`, `if true then ^x else y`,
		`[^x, y]`, `[1, ^x]`, `fst ^x`, `snd ^x`, `inl{int}^x`, `inr{int}^x`, `case ^x of y.z | z.y`, `case inl{int+bool}1 of y.^x | z.y`, `case inl{int+bool}1 of y.y | z.^x`,
		`^x+y`, `true+^x`, `1+^x`, `true=^x`, `^x:int`, `\y:?.[^x, z]`, `rec f(y:int):bool.[^x, z]`,
	} {
		refusesText(t, text, api.ErrName, "x")
	}
	refusesText(t, `^fst 1 + true`, api.ErrMatch, "")
	refusesText(t, `(true ^+ 1)(x)`, api.ErrAgree, "")
	refusesText(t, `[1, true ^< 1](fst 1)`, api.ErrAgree, "")
	refusesText(t, `if true ^* 2 then x else fst 1`, api.ErrAgree, "")
	refusesText(t, `[^fst 1, x]`, api.ErrMatch, "")
	refusesText(t, `rec f(x:int):bool.x ^: bool`, api.ErrAgree, "")

	refusesText(t, `^let x:int=true in y`, api.ErrAgree, "") // in the midst, ahead of what stands behind it
	refusesText(t, `^let x:int=true in fst 1`, api.ErrAgree, "")
	refusesText(t, `^case 1 of x.y | y.x`, api.ErrMatch, "")
	refusesText(t, `^case 1 of x.1 | y.true`, api.ErrMatch, "")
	refusesText(t, `case inl{int+bool}1 of x.x ^: bool | y.z`, api.ErrAgree, "")
	refusesText(t, `^if 1 then 2 else true`, api.ErrAgree, "")
}

// What is around a term: the last one of a name is the one, and no kid knows what is around another one.
func TestWhatIsAround(t *testing.T) {
	for text, want := range map[string]string{
		`\x:int.\x:bool.x`: "int -> bool -> bool", `\x:int.\y:bool.[x, y]`: "int -> bool -> int * bool", `\x:int.(\x:bool.x)(true)`: "int -> bool",
		`\x:int.[(\x:bool.x)(true), x]`: "int -> bool * int", `\x:int.[\x:bool.x, [\y:?.[x, y], x]]`: "int -> (bool -> bool) * ((? -> int * ?) * int)",
		`rec x(x:int):int.x`: "int -> int", `rec x(y:int):int.x(y)`: "int -> int", `rec f(x:bool):?.[f, x] : (bool->?)*bool`: "bool -> ?",
		`\f:int.rec f(x:int):bool.f(x)`: "int -> int -> bool", `\x:int.rec f(x:bool):bool.x`: "int -> bool -> bool", `\x:int.[rec f(x:bool):bool.x, x]`: "int -> (bool -> bool) * int",
		`\x:int.let x:bool=x<1 in x`: "int -> bool", `\x:int.let y:bool=(let x:bool=true in x) in [x, y]`: "int -> int * bool", `let x:int=1 in let x:?=x in x`: "?",
		`\x:int.case inl{bool+?}(x<1) of x.[x, 1] | y.[true, x]`: "int -> bool * int", `\x:int.case inr{?+bool}(x<1) of y.[x, true] | x.[1, x]`: "int -> int * bool",
		`case inl{int+bool}1 of x.[x, true] | x.[1, x]`:                                                      "int * bool",
		`\x:int.[case inl{bool+bool}true of x.x | x.x, x]`:                                                   "int -> bool * int",
		`\a:int.\b:bool.\c:?.[\d:int->int.[a, d], \d:bool*int.[d, \e:?.[b, d]]]`:                             "int -> bool -> ? -> ((int -> int) -> int * (int -> int)) * (bool * int -> bool * int * (? -> bool * (bool * int)))",
		`\a:int.\b:bool.\c:?.if b then let d:int=a in [d, b] else (let d:bool=b in (let a:bool=d in [c,d]))`: "int -> bool -> ? -> int * bool",
	} {
		takesText(t, text, want)
	}
	for _, text := range []string{
		`[\x:int.x, ^x]`, `(\x:int.x)(^x)`, `(\x:?.x)(1)+^x`, `let x:int=^x in x`, `let y:int=(let x:int=1 in x) in ^x`, `[let x:int=1 in x, ^x]`, `[rec x(y:?):?.x, ^x]`, `[rec y(x:?):?.x, ^x]`,
		`case ^x of x.x | x.x`, `case inl{?}1 of x.x | y.^x`, `case inl{?}1 of y.^x | x.x`, `[case inl{?}1 of x.x | x.x, ^x]`, `if (\x:bool.x)(true) then ^x else x`, `\y:int.[\x:int.y, [\z:int.^x, 1]]`,
	} {
		refusesText(t, text, api.ErrName, "x")
	}
	refusesText(t, `\x:int.\x:bool.x^+1`, api.ErrAgree, "")
	refusesText(t, `rec x(x:int):int.x^(1)`, api.ErrMatch, "")
	refusesText(t, `\x:bool.case inl{int+bool}1 of x.1 | y.x^+1`, api.ErrAgree, "")
	refusesText(t, `\x:bool.case inr{int+int}1 of y.x^+1 | x.x`, api.ErrAgree, "")
}

// A place is told as it stands in the term, whatever it is.
func TestPlaces(t *testing.T) {
	for _, at := range []int{0, 1, -1, 77, math.MaxInt, math.MinInt} {
		yes, x := node(api.Yes, 5), name("x", at)
		refuses(t, x, api.Fault{Code: api.ErrName, At: at, Word: "x"})
		refuses(t, node(api.Two, 3, yes, x), api.Fault{Code: api.ErrName, At: at, Word: "x"})
		refuses(t, node(api.Fst, at, yes), api.Fault{Code: api.ErrMatch, At: at})
		refuses(t, node(api.Two, 3, yes, node(api.App, at, yes, yes)), api.Fault{Code: api.ErrMatch, At: at})
		refuses(t, node(api.If, at, yes, yes, node(api.Num, 8)), api.Fault{Code: api.ErrAgree, At: at})
	}
}

// Fields that do not count make no difference.
func TestFieldsThatDoNotCount(t *testing.T) {
	for _, text := range []string{`\x:?.x+1`, `rec f(x:int):bool.f(x)`, `if true then 1 else (2:?)`, `case inl{?}1 of x.fst x | y.2`, `let x:int=1 in [snd [x, false], true]`, `inr{int+?}(1<2)`} {
		x := term(text)
		want, err := check.Type(x)
		a, errToo := check.Type(littered(x))
		told(t, text, want, a, errToo)
		if err != nil {
			t.Error(text, err)
		}
	}
}

// littered is x with something in all that does not count.
func littered(x api.Term) api.Term {
	x.Label, x.At = 3, -9
	bare := terms.Bare(x)
	if bare.Name == "" {
		x.Name = "in"
	}
	if bare.Arg == "" {
		x.Arg = "1"
	}
	if x.Kind != api.Num {
		x.Num = 5
	}
	switch x.Kind {
	case api.Lam, api.Let, api.Inl, api.Inr, api.Is:
		x.To = endless(api.Fun)
	case api.Rec:
	default:
		x.Type, x.To = of(99), endless(api.Sum)
	}
	kids := make([]api.Term, len(x.Kids))
	for n, kid := range x.Kids {
		kids[n] = littered(kid)
	}
	x.Kids = kids
	return x
}

// noTerms are no terms, with what terms.Check tells of each.
func noTerms() map[api.Errno][]api.Term {
	x := node(api.Yes, 7)
	fst := func(n int, x api.Term) api.Term {
		for range n {
			x = node(api.Fst, 7, x)
		}
		return x
	}
	twice := func(n int, x api.Term) api.Term {
		for range n {
			x = node(api.Two, 7, x, x)
		}
		return x
	}
	is := func(a api.Type) api.Term { return api.Term{Kind: api.Is, At: 7, Type: a, Kids: []api.Term{x}} }
	within := make([]api.Term, 2)
	within[0], within[1] = x, node(api.Two, 7, within...)
	return map[api.Errno][]api.Term{
		api.ErrTerm: {
			{}, {At: 7}, {Name: "in", At: 7}, {Kind: 18, At: 7}, {Kind: -1}, {Kind: 127}, {Kind: -128}, {Kind: 18, Kids: []api.Term{x}}, {Name: "x", Kids: []api.Term{x}},
			node(api.Yes, 7, x), node(api.Num, 7, x), node(api.App, 7, x), node(api.If, 7, x, x), node(api.Case, 7, x, x, x), node(api.Two, 7, x, x, x), node(api.Fst, 7), node(api.Snd, 7, x, x),
			{Kind: api.Lam, Name: "x"}, {Kind: api.Lam, Kids: []api.Term{x}}, {Kind: api.Lam, Name: "x", Type: of(api.Fun), Kids: []api.Term{x}}, {Kind: api.Lam, Name: strings.Repeat("x", 65), Kids: []api.Term{x}},
			{Kind: api.Rec, Name: "f", Arg: "x", To: of(api.Unknown, unknown()), Kids: []api.Term{x}}, {Kind: api.Rec, Name: "f", Kids: []api.Term{x}}, {Kind: api.Rec, Arg: "x", Kids: []api.Term{x}},
			{Kind: api.Let, Name: "x", Kids: []api.Term{x}}, {Kind: api.Let, Name: "1", Kids: []api.Term{x, x}}, {Kind: api.Case, Name: "x", Kids: []api.Term{x, x, x}},
			{Kind: api.Op, Name: "%", Kids: []api.Term{x, x}}, {Kind: api.Op, Kids: []api.Term{x, x}}, {Kind: api.Op, Name: "+", Kids: []api.Term{x}}, {Kind: api.Inl, Type: of(6), Kids: []api.Term{x}}, is(of(api.Int, unknown())), is(of(-1)),
			fst(199, api.Term{}), twice(12, api.Term{}),
		},
		api.ErrTooDeep: {fst(200, x), fst(8000, x), fst(200, api.Term{}), is(chain(api.Fun, 200, true, integer())), is(chain(api.Sum, 4000, false, integer())), fst(180, is(chain(api.Pair, 20, true, integer())))},
		api.ErrTooBig:  {fst(8192, x), twice(13, x), twice(40, x), twice(13, api.Term{}), within[1], is(full(api.Fun, 13, integer())), is(full(api.Fun, 50, integer())), is(endless(api.Pair)), is(endless(99))},
	}
}

// What is no term is refused with terms.Check's error, at 0.
func TestWhatIsNoTerm(t *testing.T) {
	for code, all := range noTerms() {
		for _, x := range all {
			if e := terms.Check(x); e != code {
				t.Fatalf("the test's own term: %v, not %v", e, code)
			}
			refuses(t, x, api.Fault{Code: code})
			unbound := node(api.Two, 4, name("y", 9), x)
			refuses(t, unbound, api.Fault{Code: terms.Check(unbound)})
		}
	}
}

// A Cast, wherever it is, is refused at 0, behind terms.Check's errors and ahead of what the rules tell.
func TestCasts(t *testing.T) {
	cast := everyKind()[api.Cast]
	cast.At, cast.Kids = 3, []api.Term{node(api.Yes, 4)}
	none := api.Fault{Code: api.ErrTerm}
	for _, x := range around(cast) {
		x.At = 9
		refuses(t, x, none)
		refuses(t, node(api.Two, 5, name("y", 6), x), none)
		refuses(t, node(api.Two, 5, node(api.Fst, 6, node(api.Yes, 7)), x), none)
		deep, broad := x, node(api.Two, 5, x, x)
		for range 200 {
			deep = node(api.Snd, 2, deep)
		}
		for range 13 {
			broad = node(api.Two, 5, broad, broad)
		}
		refuses(t, deep, api.Fault{Code: api.ErrTooDeep})
		refuses(t, broad, api.Fault{Code: api.ErrTooBig})
	}
	same := cast
	same.Type, same.To = boolean(), boolean()
	refuses(t, same, none)
	refuses(t, node(api.Cast, 3, node(api.Yes, 4)), none)
}

// R3: what is handed in stays as it is, with the room behind the ends of its lists.
func TestArgumentsStay(t *testing.T) {
	parts := []api.Type{of(api.Pair, integer(), unknown()), boolean(), of(77), of(78)}
	sum := of(api.Sum, parts[:2]...)
	kids := []api.Term{name("x", 1), name("x", 2), name("none", 3), name("none", 4)}
	body := node(api.Two, 5, kids[:2]...)
	x := api.Term{Kind: api.Lam, Name: "x", Type: sum, Kids: []api.Term{body}}
	takes(t, x, typed("int * ? + bool -> (int * ? + bool) * (int * ? + bool)"))
	refuses(t, node(api.Fst, 8, x), api.Fault{Code: api.ErrMatch, At: 8})
	choice := api.Term{Kind: api.Inl, Type: sum, Kids: []api.Term{term(`[1:?, true]`)}}
	takes(t, node(api.If, 0, node(api.Yes, 0), choice, term(`inr{?}(true:?)`)), sum)
	if !types.Same(parts[0], typed("int * ?")) || !types.Same(parts[1], boolean()) || parts[2].Kind != 77 || parts[3].Kind != 78 {
		t.Errorf("types: now %v", parts)
	}
	for n, x := range []string{"x", "x", "none", "none"} {
		if kids[n].Kind != api.Var || kids[n].Name != x || kids[n].At != n+1 || len(kids[n].Kids) != 0 {
			t.Errorf("terms: now %v", kids)
		}
	}
}

// lists are the places at which the lists of a type lie, each as often as it is in it.
func lists(a api.Type) []*api.Type {
	if len(a.Kids) == 0 {
		return nil
	}
	all := []*api.Type{&a.Kids[0]}
	for _, kid := range a.Kids {
		all = append(all, lists(kid)...)
	}
	return all
}

// R3: an answer shares no list with what was handed in, nor with itself, nor with another answer.
func TestAnswersShareNothing(t *testing.T) {
	for _, text := range []string{
		`\x:int*int.x`, `\x:?->?.[x, x]`, `rec f(x:int*?):int*?.x`, `let x:int*int=[1, 2] in [x, x]`, `let x:?*?=[1, 2] in x`, `[1, 2]:?*?`, `inl{(?->?)+(?->?)}(\x:?.x)`, `inl{?}1`,
		`if true then \x:?*?.x else \x:?.x`, `let x:?*?=[1, 2] in if true then x else x`, `let x:?*?=[1, 2] in if true then (1:?) else x`, `let x:?*?=[1, 2] in if true then x else (1:?)`, `case (1:?) of x.[1, x] | y.[y, y]`,
		`fst ([1:?, 2]:(?*?)*?)`, `(1:int:?:?->?*?)(1)`,
	} {
		x := term(text)
		first, err := check.Type(x)
		second, errToo := check.Type(x)
		if err != nil || errToo != nil {
			t.Fatal(text, err, errToo)
		}
		seen := map[*api.Type]int{}
		for _, list := range append(append(lists(first), lists(second)...), listsWithin(x)...) {
			seen[list]++
		}
		for _, a := range []api.Type{first, second} {
			for _, list := range lists(a) {
				if seen[list] > 1 {
					t.Errorf("%s: %s shares a list", text, short(a))
				}
			}
		}
		third, _ := check.Type(x)
		spoil(first)
		told(t, text, third, second, nil)
		takes(t, x, third)
	}
}

// listsWithin are those of the annotations of x.
func listsWithin(x api.Term) []*api.Type {
	all := append(lists(x.Type), lists(x.To)...)
	for _, kid := range x.Kids {
		all = append(all, listsWithin(kid)...)
	}
	return all
}

// spoil writes into all lists of a.
func spoil(a api.Type) {
	for n := range a.Kids {
		spoil(a.Kids[n])
		a.Kids[n] = of(99)
	}
}

// R2: how many goroutines work changes no answer, and nothing is left behind.
func TestManyAtATime(t *testing.T) {
	good, bad, deep := term(`\x:int.[\y:?.[x, y], \y:bool.[y, x]]`), term(`\x:int.[\y:bool.y, y]`), noTerms()[api.ErrTooBig][2]
	want := typed("int -> (? -> int * ?) * (bool -> bool * int)")
	done := make(chan error)
	for range 8 {
		go func() {
			var all error
			for range 300 {
				a, err := check.Type(good)
				_, errBad := check.Type(bad)
				_, errDeep := check.Type(deep)
				if err != nil || !types.Same(a, want) || errBad == nil || errBad.Error() != "19: error 41: y" || !errors.Is(errDeep, api.ErrTooBig) {
					all = errors.Join(all, errors.New("another answer"), err, errBad, errDeep)
				}
			}
			done <- all
		}()
	}
	for range 8 {
		if err := <-done; err != nil {
			t.Error(err)
		}
	}
}

// P9.2: what parse does not take is refused as parse tells it.
func TestTextsThatAreNone(t *testing.T) {
	deep, big := strings.Repeat("fst ", 200)+"x", "x"+strings.Repeat("+x", 5000)
	for text, want := range map[string]api.Fault{
		``:                         {Code: api.ErrSyntax},
		` `:                        {Code: api.ErrSyntax, At: 1},
		`x y`:                      {Code: api.ErrSyntax, At: 2, Word: "y"},
		`fst 1 2`:                  {Code: api.ErrSyntax, At: 6, Word: "2"},
		`[1, `:                     {Code: api.ErrSyntax, At: 4},
		`\x:.x`:                    {Code: api.ErrSyntax, At: 3, Word: "."},
		`x + 1a`:                   {Code: api.ErrWord, At: 4, Word: "1"},
		`x!`:                       {Code: api.ErrWord, At: 1, Word: "!"},
		`x # é` + "\n" + `é`:       {Code: api.ErrWord, At: 7, Word: "\xc3"},
		`9223372036854775808`:      {Code: api.ErrLong, Word: "9223372036854775808"},
		strings.Repeat(" ", 65537): {Code: api.ErrLong},
		deep:                       {Code: api.ErrTooDeep},
		big:                        {Code: api.ErrTooBig},
		" 1 : " + strings.Repeat("?->", 200) + "?": {Code: api.ErrTooDeep, At: 5},
	} {
		a, err := check.Text(text)
		failed(t, text, want, a, err)
	}
	a, err := check.Text(strings.Repeat(" ", 65535) + "1")
	told(t, "blanks and 1", integer(), a, err)
	a, err = check.Text(" # x\n ( \\ x : int . # y\n x ) ")
	told(t, "blanks and remarks", typed("int -> int"), a, err)
	a, err = check.Text(" # x\n ( \\ x : int . # y\n y ) ")
	failed(t, "blanks and remarks", api.Fault{Code: api.ErrName, At: 25, Word: "y"}, a, err)
}
