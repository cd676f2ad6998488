package static_test

import (
	"errors"
	"math"
	"strings"
	"testing"

	"lychgate/api"
	"lychgate/static"
	"lychgate/terms"
	"lychgate/types"
)

// P11.1 and P11.2: the chapter's examples.
func TestExamples(t *testing.T) {
	takesText(t, `\x:int.x`, "int -> int")
	opensText(t, `^\x:?.x`)
	opensText(t, `(\x:int.x)(true^:?)`)
	refusesText(t, `(\x:int.x)^(true)`, api.ErrAgree, "")
	refusesText(t, `^if 1 then 2 else 3`, api.ErrAgree, "")
	takesText(t, `inl{int+bool}1`, "int + bool")
}

// P11.2, this test and those behind it: each row of chapter 9's table, where nothing fails.
func TestWhatIsTaken(t *testing.T) {
	for text, want := range map[string]string{
		`0`: "int", `-7`: "int", `9223372036854775807`: "int", `true`: "bool", `false`: "bool",

		`\x:int.x`: "int -> int", `\x:bool.1`: "bool -> int", `\x:int.\y:bool.x`: "int -> bool -> int", `\x:int->bool.x`: "(int -> bool) -> int -> bool", `\x:int*bool+int.x`: "int * bool + int -> int * bool + int",

		`rec f(x:int):bool.f(x)`: "int -> bool", `rec f(x:int):int.x`: "int -> int", `rec f(x:int):bool->int.\y:bool.x`: "int -> bool -> int", `rec f(x:int*int):int.fst x`: "int * int -> int",

		`(\x:int.true)(1)`: "bool", `(\x:int->int.x)(\x:int.1)`: "int -> int", `(\x:int.\y:bool.x)(1)`: "bool -> int", `(\x:int.\y:bool.y)(1)(true)`: "bool", `(rec f(x:int):bool.f(x))(1)`: "bool",

		`let x:int=1 in x`: "int", `let x:int=1 in true`: "bool", `let f:int->bool=\x:int.x<1 in [f, f(1)]`: "(int -> bool) * bool",

		`if true then 1 else 2`: "int", `if 1<2 then true else false`: "bool", `if false then \x:int.1 else \y:int.y`: "int -> int", `if true then [1, true] else [2, 1=1]`: "int * bool",

		`[1, true]`: "int * bool", `[1, [true, 2]]`: "int * (bool * int)", `[[1, true], 2]`: "int * bool * int",
		`fst [1, true]`: "int", `snd [1, true]`: "bool", `fst snd [1, [true, 2]]`: "bool", `fst [\x:int.x, 1]`: "int -> int", `snd [1, [true, 2]]`: "bool * int",

		`inl{int+bool}1`: "int + bool", `inr{int+bool}true`: "int + bool", `inr{int+(int->bool)}(\x:int.x<1)`: "int + (int -> bool)", `inl{int*bool+int}[1, true]`: "int * bool + int", `inr{int+bool+(bool*int)}[true, 1]`: "int + bool + bool * int",

		`case inl{int+bool}1 of x.x | y.2`: "int", `case inl{int+bool}1 of x.true | y.y`: "bool", `case inr{int+int}1 of x.x | x.x + 1`: "int", `case inl{int+bool}1 of x.\y:bool.x | y.\y:bool.3`: "bool -> int", `case inr{(int*int)+(bool*bool)}[true, false] of x.[snd x, 1=1] | y.[1, fst y]`: "int * bool",

		`1+2`: "int", `1-2`: "int", `1*2`: "int", `1/0`: "int", `1<2`: "bool", `1=2`: "bool", `(1+2)*(3-4/5)`: "int", `1+2<3*4`: "bool",

		`1:int`: "int", `true:bool:bool`: "bool", `(\x:int.x):int->int`: "int -> int", `[1, true]:int*bool`: "int * bool", `inl{int+bool}1:int+bool`: "int + bool",
	} {
		takesText(t, text, want)
	}
}

// Each failure of each row, where it alone stands.
func TestWhatFails(t *testing.T) {
	for _, text := range []string{
		`^rec f(x:int):bool.x`, `^rec f(x:int):bool.f`, `^rec f(x:int):int.true`, `^rec f(x:bool):int->int.\y:bool.1`, `rec f(x:int):int.f^(true)`, `^rec f(x:int):int->int.f`,
		`(\x:int.x)^(true)`, `(\x:int->int.x)^(1)`, `(\x:int->int.x)^(\x:bool.1)`, `(\x:int->int.x)^(\x:int.true)`, `(\x:int*int.1)^([1, true])`, `(\x:int*int.1)^(inl{int+int}1)`,
		`^let x:int=true in x`, `^let x:int->int=1 in x`, `^let x:int*bool=[1, 2] in 1`, `^let x:int+bool=[1, true] in 1`,
		`^if 1 then 2 else 3`, `^if [true, true] then 2 else 3`, `^if (\x:bool.x) then 2 else 3`,
		`^if true then 1 else true`, `^if true then \x:int.1 else \x:bool.1`, `^if true then \x:int.1 else \x:int.true`, `^if true then [1, 2] else \x:int.2`, `^if true then [1, 2] else inl{int+int}1`,
		`^inl{int+bool}true`, `^inl{(int->int)+int}1`, `^inr{int+bool}1`, `^inr{bool+(int*bool)}[true, 1]`, `^inr{bool+int}true`, `^inl{bool+int}1`,
		`^case inl{int+bool}1 of x.x | y.y`, `^case inr{int+bool}true of x.1 | y.true`,
		`true^+1`, `1^+true`, `[1, 2]^-1`, `1^-[1, 2]`, `(\x:int.x)^*1`, `1^*(\x:int.x)`, `true^/1`, `1^/true`, `true^<1`, `1^<true`, `true^=true`, `true^=1`, `1^=true`,
		`1^:bool`, `[1, 2]^:int*bool`, `(\x:int.x)^:int*int`, `1:int^:bool`, `[1, 2]^:int+int`,
	} {
		refusesText(t, text, api.ErrAgree, "")
	}
	for _, text := range []string{
		`1^(2)`, `true^(2)`, `[1, 2]^(2)`, `(inl{int+int}1)^(2)`, `(\x:int.x)(1)^(2)`,
		`^fst 1`, `^snd true`, `^fst (\x:int.x)`, `^snd inl{int+bool}1`, `^fst snd [1, 2]`, `fst ^snd true`,
		`^inl{int}1`, `^inl{bool}true`, `^inl{int->int}1`, `^inl{int*int}1`, `^inr{int}1`, `^inr{int->int}1`, `^inr{int*int}1`,
		`^case 1 of x.1 | y.1`, `^case true of x.1 | y.1`, `^case [1, 2] of x.1 | y.1`, `^case \x:int+int.x of x.1 | y.1`,
	} {
		refusesText(t, text, api.ErrMatch, "")
	}
	for text, word := range map[string]string{`^x`: "x", `\x:int.^y`: "y", `[1, ^Let]`: "Let", `rec f(x:int):int.^g`: "g", `^_1 : int`: "_1", `fst ^x_`: "x_", `1 + ^def`: "def"} {
		refusesText(t, text, api.ErrName, word)
	}
}

// Of several failures that one counts which is asked first: the kids from the left, and then what stands here.
func TestWhichFailureIsFirst(t *testing.T) {
	for _, text := range []string{ // a kid's, ahead of another kid's and the own one
		`^x(y)`, `1(^x)`, `true(fst ^x)`, `(\x:int.x)(^x)`, `(\y:bool.^x)(y)`, `let x:int=^x in y`, `let y:bool=1+^x in y`, `if ^x then y else z`, `if 1 then ^x else y`, `if 1 then 2 else ^x`, `if true then ^x else y`,
		`[^x, y]`, `[1, ^x]`, `fst ^x`, `snd ^x`, `inl{int}^x`, `inr{int}^x`, `case ^x of y.z | z.y`, `case inl{int+bool}1 of y.^x | z.y`, `case inl{int+bool}1 of y.y | z.^x`,
		`^x+y`, `true+^x`, `1+^x`, `true=^x`, `^x:int`, `\y:int.[^x, z]`, `rec f(y:int):bool.[^x, z]`,
	} {
		refusesText(t, text, api.ErrName, "x")
	}
	refusesText(t, `^fst 1 + true`, api.ErrMatch, "")
	refusesText(t, `(true ^+ 1)(x)`, api.ErrAgree, "")
	refusesText(t, `[1, true ^< 1](fst 1)`, api.ErrAgree, "")
	refusesText(t, `if true ^* 2 then x else fst 1`, api.ErrAgree, "")
	refusesText(t, `[^fst 1, x]`, api.ErrMatch, "")
	refusesText(t, `rec f(x:int):bool.x ^: bool`, api.ErrAgree, "")
	refusesText(t, `1^(true)`, api.ErrMatch, "")
	refusesText(t, `^inl{int}true`, api.ErrMatch, "")

	refusesText(t, `^let x:int=true in y`, api.ErrAgree, "") // in the midst, ahead of what stands behind it
	refusesText(t, `^let x:int=true in fst 1`, api.ErrAgree, "")
	refusesText(t, `^case 1 of x.y | y.x`, api.ErrMatch, "")
	refusesText(t, `^case 1 of x.1 | y.true`, api.ErrMatch, "")
	refusesText(t, `case inl{int+bool}1 of x.x ^: bool | y.z`, api.ErrAgree, "")
	refusesText(t, `^if 1 then 2 else true`, api.ErrAgree, "")
}

// What is around a term: the last one of a name is the one, and no kid knows what is around another one.
func TestWhatIsAround(t *testing.T) {
	for text, want := range map[string]string{
		`\x:int.\x:bool.x`: "int -> bool -> bool", `\x:int.\y:bool.[x, y]`: "int -> bool -> int * bool", `\x:int.(\x:bool.x)(true)`: "int -> bool",
		`\x:int.[(\x:bool.x)(true), x]`: "int -> bool * int", `\x:int.[\x:bool.x, [\y:bool.[x, y], x]]`: "int -> (bool -> bool) * ((bool -> int * bool) * int)",
		`rec x(x:int):int.x`: "int -> int", `rec x(y:int):int.x(y)`: "int -> int", `rec f(x:bool):bool.fst [x, [f, x] : (bool->bool)*bool]`: "bool -> bool",
		`\f:int.rec f(x:int):bool.f(x)`: "int -> int -> bool", `\x:int.rec f(x:bool):bool.x`: "int -> bool -> bool", `\x:int.[rec f(x:bool):bool.x, x]`: "int -> (bool -> bool) * int",
		`\x:int.let x:bool=x<1 in x`: "int -> bool", `\x:int.let y:bool=(let x:bool=true in x) in [x, y]`: "int -> int * bool", `let x:int=1 in let x:bool=x=x in x`: "bool",
		`\x:int.case inl{bool+int}(x<1) of x.[x, 1] | y.[true, x]`: "int -> bool * int", `\x:int.case inr{int+bool}(x<1) of y.[x, true] | x.[1, x]`: "int -> int * bool",
		`case inl{int+bool}1 of x.[x, true] | x.[1, x]`:                                                        "int * bool",
		`\x:int.[case inl{bool+bool}true of x.x | x.x, x]`:                                                     "int -> bool * int",
		`\a:int.\b:bool.\c:int.[\d:int->int.[a, d], \d:bool*int.[d, \e:bool.[b, d]]]`:                          "int -> bool -> int -> ((int -> int) -> int * (int -> int)) * (bool * int -> bool * int * (bool -> bool * (bool * int)))",
		`\a:int.\b:bool.\c:int.if b then let d:bool=b in [a, d] else (let d:int=c in (let a:bool=b in [d,a]))`: "int -> bool -> int -> int * bool",
	} {
		takesText(t, text, want)
	}
	for _, text := range []string{
		`[\x:int.x, ^x]`, `(\x:int.x)(^x)`, `(\x:int.x)(1)+^x`, `let x:int=^x in x`, `let y:int=(let x:int=1 in x) in ^x`, `[let x:int=1 in x, ^x]`, `[rec x(y:int):int.y, ^x]`, `[rec y(x:int):int.x, ^x]`,
		`case ^x of x.x | x.x`, `case inl{int+int}1 of x.x | y.^x`, `case inl{int+int}1 of y.^x | x.x`, `[case inl{int+int}1 of x.x | x.x, ^x]`, `if (\x:bool.x)(true) then ^x else x`, `\y:int.[\x:int.y, [\z:int.^x, 1]]`,
	} {
		refusesText(t, text, api.ErrName, "x")
	}
	refusesText(t, `\x:int.\x:bool.x^+1`, api.ErrAgree, "")
	refusesText(t, `rec x(x:int):int.x^(1)`, api.ErrMatch, "")
	refusesText(t, `\x:bool.case inl{int+bool}1 of x.1 | y.x^+1`, api.ErrAgree, "")
	refusesText(t, `\x:bool.case inr{int+int}1 of y.x^+1 | x.x`, api.ErrAgree, "")
}

// P11.1 and P11.2: an annotation of each kind, with ? in it.
func TestWhatIsOpen(t *testing.T) {
	for _, open := range []string{`?`, `?->int`, `int->?`, `?*int`, `int*?`, `?+int`, `int+?`, `?->?`, `int->int->(bool*(int+(?->int)))`} {
		for _, marked := range []string{
			`^\x:A.1`, `^rec f(x:A):int.1`, `^rec f(x:int):A.1`, `^rec f(x:A):A.1`, `^let x:A=1 in 1`, `^inl{A}1`, `^inr{A}1`, `1^:A`,
			`[1, ^\x:A.1]`, `fst (^rec f(x:A):int.1)`, `snd (^rec f(x:int):A.1)`, `if true then ^let x:A=1 in 1 else 2`, `case 1 of x.2 | y.^inl{A}1`, `case 1 of x.^inr{A}1 | y.2`, `case 1^:A of x.1 | y.2`, `1+2^:A`, `1(2^:A)`, `(1^:A)(2)`, `if 1^:A then 2 else 3`, `if 1 then 2 else (3^:A)`, `\x:int.1^:A`, `rec f(x:int):int.1^:A`, `let x:int=1^:A in 2`, `let x:int=1 in 2^:A`, `inl{int+int}(1^:A)`, `1^:A:int`, `[1:int, [\x:int.x, [2^:A, 3]]]`,
		} {
			opensText(t, strings.ReplaceAll(marked, "A", open))
		}
	}
}

// The first term that leaves something open is told: a term ahead of its kids, the kids from the left.
func TestWhichIsOpenFirst(t *testing.T) {
	for _, marked := range []string{
		`^\x:?.\y:?.x`, `\x:int.^\y:?.x:?`, `^\x:?.(1:?)`, `^rec f(x:?):int.1:?`, `^rec f(x:int):?.1:?`, `^let x:?=1:? in 2:?`, `let x:int=1^:? in 2:?`, `^inl{?}(1:?)`, `inl{?}1^:?`, `inl{int+int}(1^:?)`, `1:int^:?`, `1:?^:?`,
		`[1^:?, 2:?]`, `[1, 2^:?]`, `(1^:?)(2:?)`, `if 1^:? then 2:? else (3:?)`, `if 1 then 2^:? else (3:?)`, `case 1^:? of x.2:? | y.3:?`, `case 1 of x.2^:? | y.3:?`, `(1^:?)+(2:?)`, `[[1, [2, 3^:?]], 4:?]`, `[^\x:?.1:?, 4:?]`,
	} {
		opensText(t, marked)
	}
}

// ErrGradual is ahead of all that the rules tell.
func TestOpenAheadOfTheRules(t *testing.T) {
	for _, marked := range []string{`x(1^:?)`, `[x, ^\y:?.x]`, `fst 1 + (1^:?)`, `(true+1)(^inl{?}1)`, `let x:int=true in 1^:?`, `case 1 of x.1 | y.y^:?`, `if 1 then 2 else (true^:?)`, `inl{int}(1^:?)`, `^inl{?}x`, `x^:?`, `^let x:?=y in y`, `^rec f(x:?):int.y`, `^rec f(x:int):?.y`, `1:bool^:?`} {
		opensText(t, marked)
	}
	deep, open := term(`1`), node(api.Fst, 3, term(`1:?`))
	for range 12 {
		deep = node(api.Two, 5, deep, deep)
	}
	notStatic(t, node(api.Two, 6, node(api.Two, 7, deep, term(`1`)), open), api.Fault{Code: api.ErrTooBig})
	deep = deep.Kids[0] // 4095 nodes
	notStatic(t, node(api.Two, 6, open, deep), api.Fault{Code: api.ErrGradual, At: 1})
	notStatic(t, node(api.Two, 6, deep, open), api.Fault{Code: api.ErrGradual, At: 1})
}

// A place is told as it stands in the term, whatever it is.
func TestPlaces(t *testing.T) {
	for _, place := range []int{0, 1, -1, 77, math.MaxInt, math.MinInt} {
		yes, x := node(api.Yes, 5), name("x", place)
		refuses(t, x, api.Fault{Code: api.ErrName, At: place, Word: "x"})
		refuses(t, node(api.Two, 3, yes, x), api.Fault{Code: api.ErrName, At: place, Word: "x"})
		refuses(t, node(api.Fst, place, yes), api.Fault{Code: api.ErrMatch, At: place})
		refuses(t, node(api.Two, 3, yes, node(api.App, place, yes, yes)), api.Fault{Code: api.ErrMatch, At: place})
		refuses(t, node(api.If, place, yes, yes, node(api.Num, 8)), api.Fault{Code: api.ErrAgree, At: place})
		open := api.Term{Kind: api.Is, At: place, Kids: []api.Term{yes}}
		notStatic(t, open, api.Fault{Code: api.ErrGradual, At: place})
		notStatic(t, node(api.Two, 3, yes, open), api.Fault{Code: api.ErrGradual, At: place})
	}
}

// P11.1 and P11.2: fields that do not count make no difference, nor a ? in them.
func TestFieldsThatDoNotCount(t *testing.T) {
	for _, text := range []string{`\x:int.x+1`, `rec f(x:int):bool.f(x)`, `if true then 1 else (2:int)`, `case inl{int*int+int}[1, 2] of x.fst x | y.2`, `let x:int=1 in [snd [x, false], true]`, `inr{int+bool}(1<2)`, `(\x:int.x)(1)`} {
		x := term(text)
		want, err := static.Type(x)
		if err != nil {
			t.Error(text, err)
		}
		takes(t, littered(x), want)
		takes(t, openElsewhere(x), want)
	}
}

// littered is x with something in all that does not count.
func littered(x api.Term) api.Term {
	x.Label, x.At = 3, -9
	bare := terms.Bare(x)
	if bare.Name == "" {
		x.Name = "in"
	}
	if bare.Arg == "" {
		x.Arg = "1"
	}
	if x.Kind != api.Num {
		x.Num = 5
	}
	switch x.Kind {
	case api.Lam, api.Let, api.Inl, api.Inr, api.Is:
		x.To = endless(api.Fun)
	case api.Rec:
	default:
		x.Type, x.To = of(99), endless(api.Sum)
	}
	return over(x, littered)
}

// openElsewhere is x with types that have a ? in all that does not count.
func openElsewhere(x api.Term) api.Term {
	switch x.Kind {
	case api.Rec:
	case api.Lam, api.Let, api.Inl, api.Inr, api.Is:
		x.To = typed("int -> ?")
	default:
		x.Type, x.To = typed("? + bool"), typed("int -> ?")
	}
	return over(x, openElsewhere)
}

// noTerms are no terms, with what terms.Check tells of each.
func noTerms() map[api.Errno][]api.Term {
	x := node(api.Yes, 7)
	fst := func(n int, x api.Term) api.Term {
		for range n {
			x = node(api.Fst, 7, x)
		}
		return x
	}
	twice := func(n int, x api.Term) api.Term {
		for range n {
			x = node(api.Two, 7, x, x)
		}
		return x
	}
	is := func(a api.Type) api.Term { return api.Term{Kind: api.Is, At: 7, Type: a, Kids: []api.Term{x}} }
	within := make([]api.Term, 2)
	within[0], within[1] = x, node(api.Two, 7, within...)
	return map[api.Errno][]api.Term{
		api.ErrTerm: {
			{}, {At: 7}, {Name: "in", At: 7}, {Kind: 18, At: 7}, {Kind: -1}, {Kind: 127}, {Kind: -128}, {Kind: 18, Kids: []api.Term{x}}, {Name: "x", Kids: []api.Term{x}},
			node(api.Yes, 7, x), node(api.Num, 7, x), node(api.App, 7, x), node(api.If, 7, x, x), node(api.Case, 7, x, x, x), node(api.Two, 7, x, x, x), node(api.Fst, 7), node(api.Snd, 7, x, x),
			{Kind: api.Lam, Name: "x"}, {Kind: api.Lam, Kids: []api.Term{x}}, {Kind: api.Lam, Name: "x", Type: of(api.Fun), Kids: []api.Term{x}}, {Kind: api.Lam, Name: strings.Repeat("x", 65), Kids: []api.Term{x}},
			{Kind: api.Rec, Name: "f", Arg: "x", To: of(api.Unknown, unknown()), Kids: []api.Term{x}}, {Kind: api.Rec, Name: "f", Kids: []api.Term{x}}, {Kind: api.Rec, Arg: "x", Kids: []api.Term{x}},
			{Kind: api.Let, Name: "x", Kids: []api.Term{x}}, {Kind: api.Let, Name: "1", Kids: []api.Term{x, x}}, {Kind: api.Case, Name: "x", Kids: []api.Term{x, x, x}},
			{Kind: api.Op, Name: "%", Kids: []api.Term{x, x}}, {Kind: api.Op, Kids: []api.Term{x, x}}, {Kind: api.Op, Name: "+", Kids: []api.Term{x}}, {Kind: api.Inl, Type: of(6), Kids: []api.Term{x}}, is(of(api.Int, unknown())), is(of(-1)), is(of(api.Sum, integer())),
			fst(199, api.Term{}), twice(12, api.Term{}),
		},
		api.ErrTooDeep: {fst(200, x), fst(8000, x), fst(200, api.Term{}), is(chain(api.Fun, 200, true, integer())), is(chain(api.Sum, 4000, false, integer())), fst(180, is(chain(api.Pair, 20, true, integer())))},
		api.ErrTooBig:  {fst(8192, x), twice(13, x), twice(40, x), twice(13, api.Term{}), within[1], is(full(api.Fun, 13, integer())), is(full(api.Fun, 50, integer())), is(endless(api.Pair)), is(endless(99))},
	}
}

// P11.1 and P11.2: what is no term is not static, and is refused with terms.Check's error, at 0, ahead of what is open and what the rules tell.
func TestWhatIsNoTerm(t *testing.T) {
	for code, all := range noTerms() {
		for _, x := range all {
			if e := terms.Check(x); e != code {
				t.Fatalf("the test's own term: %v, not %v", e, code)
			}
			notStatic(t, x, api.Fault{Code: code})
			for _, ahead := range []api.Term{name("y", 9), term(`1:?`), term(`\x:?.y`)} {
				both := node(api.Two, 4, ahead, x)
				notStatic(t, both, api.Fault{Code: terms.Check(both)})
			}
		}
	}
}

// P11.1 and P11.2: a Cast, wherever it is, is refused at 0, behind terms.Check's errors, and ahead of what is open and what the rules tell.
func TestCasts(t *testing.T) {
	cast := everyKind()[api.Cast]
	cast.At, cast.Kids = 3, []api.Term{node(api.Yes, 4)}
	none := api.Fault{Code: api.ErrTerm}
	for _, x := range around(cast) {
		x.At = 9
		notStatic(t, x, none)
		notStatic(t, node(api.Two, 5, name("y", 6), x), none)
		notStatic(t, node(api.Two, 5, term(`1:?`), x), none)
		notStatic(t, node(api.Two, 5, node(api.Fst, 6, node(api.Yes, 7)), x), none)
		deep, broad := x, node(api.Two, 5, x, x)
		for range 200 {
			deep = node(api.Snd, 2, deep)
		}
		for range 13 {
			broad = node(api.Two, 5, broad, broad)
		}
		notStatic(t, deep, api.Fault{Code: api.ErrTooDeep})
		notStatic(t, broad, api.Fault{Code: api.ErrTooBig})
	}
	same := cast
	same.Type, same.To = boolean(), boolean()
	notStatic(t, same, none)
	notStatic(t, node(api.Cast, 3, node(api.Yes, 4)), none)
}

// R3: what is handed in stays as it is, with the room behind the ends of its lists.
func TestArgumentsStay(t *testing.T) {
	parts := []api.Type{of(api.Pair, integer(), boolean()), boolean(), of(77), of(78)}
	sum := of(api.Sum, parts[:2]...)
	kids := []api.Term{name("x", 1), name("x", 2), name("none", 3), name("none", 4)}
	body := node(api.Two, 5, kids[:2]...)
	x := api.Term{Kind: api.Lam, Name: "x", Type: sum, Kids: []api.Term{body}}
	takes(t, x, typed("int * bool + bool -> (int * bool + bool) * (int * bool + bool)"))
	refuses(t, node(api.Fst, 8, x), api.Fault{Code: api.ErrMatch, At: 8})
	notStatic(t, node(api.Two, 8, x, term(`1:?`)), api.Fault{Code: api.ErrGradual, At: 1})
	choice := api.Term{Kind: api.Inl, Type: sum, Kids: []api.Term{term(`[1, true]`)}}
	takes(t, node(api.If, 0, node(api.Yes, 0), choice, term(`inr{int*bool+bool}true`)), sum)
	if !types.Same(parts[0], typed("int * bool")) || !types.Same(parts[1], boolean()) || parts[2].Kind != 77 || parts[3].Kind != 78 {
		t.Errorf("types: now %v", parts)
	}
	for n, x := range []string{"x", "x", "none", "none"} {
		if kids[n].Kind != api.Var || kids[n].Name != x || kids[n].At != n+1 || len(kids[n].Kids) != 0 {
			t.Errorf("terms: now %v", kids)
		}
	}
}

// lists are the places at which the lists of a type lie, each as often as it is in it.
func lists(a api.Type) []*api.Type {
	if len(a.Kids) == 0 {
		return nil
	}
	all := []*api.Type{&a.Kids[0]}
	for _, kid := range a.Kids {
		all = append(all, lists(kid)...)
	}
	return all
}

// R3: an answer shares no list with what was handed in, nor with itself, nor with another answer.
func TestAnswersShareNothing(t *testing.T) {
	for _, text := range []string{
		`\x:int*int.x`, `\x:int->int.[x, x]`, `rec f(x:int*int):int*int.x`, `let x:int*int=[1, 2] in [x, x]`, `let x:int*bool=[1, true] in x`, `[1, 2]:int*int`, `inl{(int->int)+(int->int)}(\x:int.x)`, `inr{bool+int*int}[1, 2]`,
		`if true then \x:int*int.x else \y:int*int.y`, `let x:int*int=[1, 2] in if true then x else x`, `case inl{int+int}1 of x.[[1, 2], [x, x]] | y.[[2, 1], [y, 1]]`, `case inl{(int*int)+(int*int)}[1, 2] of x.[x, x] | y.[y, y]`,
		`fst ([[1, 2], 2]:(int*int)*int)`, `(\x:int*int.[x, x])([1, 2])`, `snd [1, \x:int*int.x]`,
	} {
		x := term(text)
		first, err := static.Type(x)
		second, errToo := static.Type(x)
		if err != nil || errToo != nil {
			t.Fatal(text, err, errToo)
		}
		seen := map[*api.Type]int{}
		for _, list := range append(append(lists(first), lists(second)...), listsWithin(x)...) {
			seen[list]++
		}
		for _, a := range []api.Type{first, second} {
			for _, list := range lists(a) {
				if seen[list] > 1 {
					t.Errorf("%s: %s shares a list", text, short(a))
				}
			}
		}
		third, _ := static.Type(x)
		spoil(first)
		told(t, text, third, second, nil)
		takes(t, x, third)
	}
}

// listsWithin are those of the annotations of x.
func listsWithin(x api.Term) []*api.Type {
	all := append(lists(x.Type), lists(x.To)...)
	for _, kid := range x.Kids {
		all = append(all, listsWithin(kid)...)
	}
	return all
}

// spoil writes into all lists of a.
func spoil(a api.Type) {
	for n := range a.Kids {
		spoil(a.Kids[n])
		a.Kids[n] = of(99)
	}
}

// R2: how many goroutines work changes no answer, and nothing is left behind.
func TestManyAtATime(t *testing.T) {
	good, bad, open, big := term(`\x:int.[\y:int.[x, y], \y:bool.[y, x]]`), term(`\x:int.[\y:bool.y, y]`), term(`\x:int.[\y:int.y, \y:?.x]`), noTerms()[api.ErrTooBig][2]
	want := typed("int -> (int -> int * int) * (bool -> bool * int)")
	done := make(chan error)
	for range 8 {
		go func() {
			var all error
			for range 300 {
				a, err := static.Type(good)
				_, errBad := static.Type(bad)
				_, errOpen := static.Type(open)
				_, errBig := static.Type(big)
				if err != nil || !types.Same(a, want) || errBad == nil || errBad.Error() != "19: error 41: y" || errOpen == nil || errOpen.Error() != "18: error 110: " || !errors.Is(errBig, api.ErrTooBig) || !static.Static(good) || static.Static(open) {
					all = errors.Join(all, errors.New("another answer"), err, errBad, errOpen, errBig)
				}
			}
			done <- all
		}()
	}
	for range 8 {
		if err := <-done; err != nil {
			t.Error(err)
		}
	}
}
