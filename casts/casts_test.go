package casts_test

import (
	"math"
	"slices"
	"testing"

	"lychgate/api"
	"lychgate/casts"
	"lychgate/samples"
	"lychgate/terms"
	"lychgate/types"
)

// P14.1 to P14.3: the chapter's examples.
func TestExamples(t *testing.T) {
	seven := api.Term{Kind: api.Num, Num: 7, At: 3}
	x := castText("?", "int", 5, castText("int", "?", 2, seven))
	lists(t, x, api.CastAt{From: unknown(), To: integer(), Label: 5}, api.CastAt{From: integer(), To: unknown(), Label: 2})
	safe(t, x, 2, true, true)
	safe(t, x, 5, false, true)
	safe(t, x, 9, true, true)
	erases(t, x, seven)
	high(t, x, 1)

	f := castText("int -> int", "? -> int", 3, term(`\x:int.x`))
	lists(t, f, api.CastAt{From: typed("int -> int"), To: typed("? -> int"), Label: 3})
	safe(t, f, 3, true, false)
	safe(t, f, -3, false, true)
	erases(t, f, term(`\x:int.x`))
	high(t, f, 2)

	tellsNothing(t, castText("int", "?", 0, seven))
}

// P14.1: a cast is told ahead of those in its kid, those of a kid ahead of those of the next one.
func TestAllInOrder(t *testing.T) {
	for text, want := range map[string][]int{
		`x`: nil, `\x:int->?.[x, rec f(y:?):bool*?.x]`: nil, `1:?`: nil,
		`1:int:?`: {6}, `1:int:?:?:int`: {10, 6}, `1:int:?:int:bool:?:int`: {19, 12, 6},
		`(x:?:?)(y:?:?)`: {5, 12}, `((x:?:?)(y:?:?)):?:?`: {19, 6, 13}, `(x:?:?:?:?)(y:?:?:?:?)`: {9, 5, 20, 16},
		`if x:?:? then y:?:? else (z:?:?)`: {7, 18, 30}, `case x:?:? of x.y:?:? | y.z:?:?`: {9, 20, 30},
		`let x:?=y:?:? in z:?:?`: {12, 21}, `[[x:?:?, y:?:?], [z:?:?, x:?:?]]`: {6, 13, 22, 29}, `(1:?:?)+(2:?:?)`: {5, 13},
		`\x:?.x:?:?`: {9}, `rec f(x:?):?.x:?:?`: {17}, `fst (x:?:?)`: {9}, `snd (x:?:?)`: {9}, `inl {?} (x:?:?)`: {13}, `inr {?} (x:?:?)`: {13}, `(x:?:?)+1:?`: {5},
	} {
		labelled(t, term(text), want...)
	}
	x, want := name("x"), []int(nil)
	for n := range 196 {
		x = castText("?", "int", n+1, x)
		want = append([]int{n + 1}, want...)
		labelled(t, x, want...)
	}
}

// P14.1: what is told of a cast is what stands there, whether or not the term has a type.
func TestCastsAsTheyAre(t *testing.T) {
	all := []string{"?", "int", "bool", "? -> int", "(int -> ?) * (? + bool)"}
	for _, from := range all {
		for _, to := range all {
			for _, label := range []int{1, -1, 77, 1 << 31, -1 << 31} {
				x := castText(from, to, label, name("x"))
				want := api.CastAt{From: typed(from), To: typed(to), Label: label}
				lists(t, x, want)
				lists(t, node(api.Two, x, x), want, want)
			}
		}
	}
	x := api.Term{Kind: api.Is, Type: integer(), Kids: []api.Term{castText("int", "?", 4, name("x"))}}
	labelled(t, x, 4)
	erases(t, x, api.Term{Kind: api.Is, Type: integer(), Kids: []api.Term{name("x")}})
}

// P14.2: a cast alone. How it goes up: in both ways, positively alone, negatively alone, in none.
func TestSafeOfOneCast(t *testing.T) {
	for _, x := range []struct {
		from, to string
		pos, neg bool
	}{
		{"int", "?", true, true}, {"?", "?", true, true}, {"int", "int", true, true}, {"? -> int", "?", true, true}, {"int -> bool", "int -> bool", true, true}, {"? -> int", "? -> ?", true, true}, {"? -> int", "int -> int", true, true},
		{"int -> int", "?", true, false}, {"int -> int", "? -> int", true, false}, {"int * (bool -> ?)", "?", true, false},
		{"?", "int", false, true}, {"?", "int -> int", false, true}, {"? -> ?", "? -> int", false, true}, {"? * ?", "int * ?", false, true},
		{"int", "bool", false, false}, {"int -> ?", "? -> int", false, false}, {"int + int", "int * int", false, false}, {"(int -> int) * ?", "? * int", false, false},
	} {
		for _, label := range []int{1, -1, 8, -8, 1 << 31, -1 << 31} {
			u := castText(x.from, x.to, label, name("x"))
			for _, v := range samples.Around(u) {
				safe(t, v, label, x.pos, x.neg)
				safe(t, v, -label, x.neg, x.pos)
				safe(t, v, 7, true, true)
				safe(t, v, label/2+2, true, true)
			}
		}
	}
}

// P14.2: of some casts of a label, or of its other side, each one counts; others do not.
func TestSafeOfSomeCasts(t *testing.T) {
	ways := map[[2]bool][2]string{{true, true}: {"int", "?"}, {true, false}: {"int -> int", "?"}, {false, true}: {"?", "int"}, {false, false}: {"int", "bool"}}
	for one, first := range ways {
		for two, second := range ways {
			for _, label := range []int{3, -3} {
				inner := castText(second[0], second[1], label, name("x"))
				other := castText(second[0], second[1], -label, name("x"))
				another := castText(second[0], second[1], 4, name("x"))
				outer := func(x api.Term) api.Term { return castText(first[0], first[1], 3, x) }
				for _, both := range []func(x api.Term) api.Term{outer, func(x api.Term) api.Term { return node(api.Two, outer(name("y")), x) }, func(x api.Term) api.Term { return node(api.Two, x, outer(name("y"))) }} {
					pos, neg := two[0], two[1]
					if label < 0 {
						pos, neg = neg, pos
					}
					safe(t, both(inner), 3, one[0] && pos, one[1] && neg)
					safe(t, both(inner), -3, one[1] && neg, one[0] && pos)
					safe(t, both(other), 3, one[0] && neg, one[1] && pos)
					safe(t, both(another), 3, one[0], one[1])
					safe(t, both(another), 4, two[0], two[1])
					safe(t, both(another), -4, two[1], two[0])
				}
			}
		}
	}
}

// P14.2: numbers that no cast has are safe, if there is a term.
func TestSafeOfOtherLabels(t *testing.T) {
	x := term(`(1:int:bool)(2:bool:int:?:int)`)
	for _, label := range []int{0, 1, -1, 1<<31 + 1, -1<<31 - 1, math.MaxInt, math.MinInt, math.MinInt + 1} {
		safe(t, x, label, true, true)
		safe(t, name("x"), label, true, true)
	}
	edges := node(api.Two, castText("int", "bool", 1<<31, name("x")), castText("?", "int", -1<<31, name("x")))
	safe(t, edges, 1<<31, false, false)
	safe(t, edges, -1<<31, false, false)
	edges.Kids[0].Label = 1
	safe(t, edges, 1<<31, true, false)
	safe(t, edges, -1<<31, false, true)
}

// P14.3: casts, one or some over one another, are gone wherever they stand; all other terms stand where they did.
func TestErase(t *testing.T) {
	for _, inner := range samples.EveryKind() {
		if inner.Kind == api.Cast {
			continue
		}
		inner.At = 70
		x := inner
		for n := range 3 {
			x = castText("?", "int", n+1, x)
			x.At = n
			outer := samples.Around(x)
			for m, want := range samples.Around(inner) {
				if want.Kind == api.Cast {
					want = inner
				}
				erases(t, outer[m], want)
			}
		}
	}
	for _, at := range []int{0, -1, math.MinInt, math.MaxInt} {
		x := castText("int", "?", 1, api.Term{Kind: api.Fst, At: at, Kids: []api.Term{castText("?", "int", 1, name("x"))}})
		erases(t, x, api.Term{Kind: api.Fst, At: at, Kids: []api.Term{name("x")}})
	}
	for text, want := range map[string]string{
		`1:int:?:?:int`: `1             `, `\x:?.(x:?:int)`: `\x:?.(x      )`, `(f:?:?->?)(1:int:?)`: `(f       )(1      )`, `(1:int:?:?:int)+2`: `(1            )+2`,
		`if x:?:bool then y else (z:int:?)`: `if x        then y else (z      )`, `case inl{?+?}(1:int:?):?+?:? of y.(y:?:int) | z.z`: `case inl{?+?}(1      )       of y.(y      ) | z.z`,
	} {
		erases(t, term(text), term(want)) // what is erased leaves blanks, so that the rest stands where it did
	}
}

// P14.3: fields that do not count are empty in what Erase tells, and make no difference to the others.
func TestFieldsThatDoNotCount(t *testing.T) {
	for _, text := range []string{`(\x:?.(x:?:int)+1)(2:int:?)`, `rec f(x:?):bool.f(x)`, `if true then 1:int:? else (2:int:?)`, `case inl{int*?+int}[1, 2:int:?] of x.fst x | y.2`, `let x:?=1:int:? in [snd [x, false], true]`, `inr{int+bool}(1<2)`, `[1, true]:int*bool:?`, `7`, `x(y)`, `x:?`} {
		x := term(text)
		y := samples.Littered(x)
		if exactly(x, y) {
			t.Error("the test's own term:", text)
		}
		erases(t, y, casts.Erase(x))
		high(t, y, heightOf(x))
		lists(t, y, casts.All(x)...)
		for _, c := range casts.All(x) {
			pos, neg := casts.Safe(x, c.Label)
			safe(t, y, c.Label, pos, neg)
		}
	}
	high(t, samples.Littered(name("x")), 0)
}

// P14.3: each annotation, and each side of a cast, may be the highest type; terms have no height of their own.
func TestHeight(t *testing.T) {
	for text, want := range map[string]int{
		`x`: 0, `1+2`: 0, `[true, if x then y else false]`: 0, `case x of y.y | z.fst z`: 0, `f(1)(2)(3)`: 0,
		`\x:?.x`: 1, `\x:int.x`: 1, `let x:bool=y in x`: 1, `inl{?}x`: 1, `inr{?}x`: 1, `x:?`: 1, `rec f(x:?):int.x`: 1, `x:?:int`: 1,
		`\x:int->?.x`: 2, `let x:?*?=y in x`: 2, `inl{int+bool}x`: 2, `inr{?+?}x`: 2, `x:int*int`: 2, `rec f(x:?->?):?.x`: 2, `rec f(x:?):?+?.x`: 2, `x:?->?:?`: 2, `x:?:?*?`: 2,
		`\x:int->int->int.x`: 3, `\x:(int*?)*?.x`: 3, `x:?:(?*(?->?))+int`: 4, `[\x:int.x, [y:?:int->int, 1]]`: 2, `\x:?->?->?->?.\y:?->?.y`: 4, `\y:?->?.\x:?->?->?->?.y`: 4, `1:int*int*int:?:int:int*int*int*int`: 4,
	} {
		high(t, term(text), want)
	}
	for _, right := range []bool{false, true} {
		for _, kind := range []int8{api.Fun, api.Pair, api.Sum} {
			deepest := chain(kind, 199, right, integer())
			high(t, cast(deepest, unknown(), 1, name("x")), 199)
			high(t, cast(unknown(), deepest, 1, name("x")), 199)
			high(t, api.Term{Kind: api.Lam, Name: "x", Type: deepest, Kids: []api.Term{name("x")}}, 199)
			tellsNothing(t, node(api.Fst, cast(deepest, unknown(), 1, name("x"))))
		}
	}
}

// R10: of what is no term nothing is told.
func TestWhatIsNoTerm(t *testing.T) {
	good := castText("int", "bool", 3, term(`1`))
	for code, all := range samples.NoTerms() {
		for _, x := range all {
			if e := terms.Check(x); e != code {
				t.Fatalf("the test's own term: %v, not %v", e, code)
			}
			tellsNothing(t, x)
			tellsNothing(t, node(api.Two, good, x))
			tellsNothing(t, node(api.Two, x, good))
			tellsNothing(t, castText("int", "bool", 3, x))
		}
	}
	for _, label := range []int{0, 1<<31 + 1, -1<<31 - 1, math.MaxInt, math.MinInt} {
		tellsNothing(t, castText("int", "?", label, term(`1`)))
		tellsNothing(t, castText("int", "?", 3, castText("?", "int", label, term(`1`))))
	}
}

// R1, R10: the greatest terms, with the greatest types and the most casts in them, are told of in good time.
func TestTheGreatest(t *testing.T) {
	big := samples.Balanced(api.Fun, 2047, unknown()) // 4093 nodes
	x := cast(big, unknown(), 1, term(`1`))
	x = node(api.Two, x, castText("?", "int", -1, term(`true`)))
	asRead(t, x)
	high(t, x, 12)
	deep := term(`1`)
	for n := range 39 {
		deep = cast(chain(api.Fun, 100-n, true, unknown()), unknown(), -1, deep)
	}
	asRead(t, deep)
	many := castText("int", "?", 1, term(`1`))
	for range 10 {
		many = node(api.Two, many, many) // 1024 Casts
	}
	asRead(t, many)
	if n := len(casts.All(many)); n != 1024 {
		t.Error(n)
	}
}

// R3: what is handed in stays as it is, with the room behind the ends of its lists.
func TestArgumentsStay(t *testing.T) {
	pieces := []api.Type{of(api.Pair, unknown(), boolean()), unknown(), of(77), of(78)}
	sum := of(api.Sum, pieces[:2]...)
	kids := []api.Term{name("x"), cast(sum, unknown(), 1, name("x")), name("none"), name("nil")}
	ofLam := []api.Term{cast(unknown(), sum, 2, node(api.Two, kids[:2]...)), name("none")}
	x := api.Term{Kind: api.Lam, Name: "x", Type: sum, Kids: ofLam[:1]}
	labelled(t, x, 2, 1)
	safe(t, x, 2, false, true)
	erases(t, x, api.Term{Kind: api.Lam, Name: "x", Type: sum, Kids: []api.Term{node(api.Two, name("x"), name("x"))}})
	high(t, x, 3)
	if !types.Same(pieces[0], typed("? * bool")) || !types.Same(pieces[1], unknown()) || pieces[2].Kind != 77 || pieces[3].Kind != 78 {
		t.Errorf("types: now %v", pieces)
	}
	if !exactly(kids[0], name("x")) || !exactly(kids[1], castText("? * bool + ?", "?", 1, name("x"))) || kids[2].Name != "none" || kids[3].Name != "nil" || ofLam[0].Kind != api.Cast || ofLam[0].Kids[0].Kind != api.Two || ofLam[1].Name != "none" {
		t.Errorf("terms: now %v, %v", kids, ofLam)
	}
}

// typeListsOf are those of the types of casts.
func typeListsOf(all []api.CastAt) []*api.Type {
	var l []*api.Type
	for _, c := range all {
		l = slices.Concat(l, samples.Lists(c.From), samples.Lists(c.To))
	}
	return l
}

// R3: an answer shares no list with what was handed in, nor with itself, nor with another answer.
func TestAnswersShareNothing(t *testing.T) {
	pair := typed("? * (int -> ?)")
	shared := cast(pair, pair, 1, api.Term{Kind: api.Lam, Name: "x", Type: pair, Kids: []api.Term{castText("int", "?", 2, name("x"))}})
	for _, x := range []api.Term{
		node(api.Two, shared, shared), cast(pair, pair, 3, shared), term(`\x:int*?.[x:int*?:?*?, (rec f(y:int->?):?+?.y(x:?:?*int)):?->?:?]`), term(`inl{(int*?)+?}(1:int*int:?)`),
	} {
		all, again := casts.All(x), casts.All(x)
		if samples.Shares(typeListsOf(all), slices.Concat(typeListsOf(again), samples.TypeLists(x))) {
			t.Errorf("All of %s shares a list", shortOf(x))
		}
		left, once := casts.Erase(x), casts.Erase(x)
		if samples.Shares(samples.TypeLists(left), slices.Concat(samples.TypeLists(once), samples.TypeLists(x))) || samples.Shares(samples.TermLists(left), slices.Concat(samples.TermLists(once), samples.TermLists(x))) {
			t.Errorf("Erase of %s shares a list", shortOf(x))
		}
		for _, list := range slices.Concat(typeListsOf(all), samples.TypeLists(left)) {
			list.Kind = 99
		}
		for _, list := range samples.TermLists(left) {
			*list = api.Term{Kind: 99}
		}
		lists(t, x, again...)
		erases(t, x, once)
	}
}

// R2: how many goroutines work changes no answer, and nothing is left behind.
func TestManyAtATime(t *testing.T) {
	good, bad := term(`(\x:?.[(x:?:int)+1, \y:int->?.y:int->?:?])(2:int:?)`), samples.NoTerms()[api.ErrTooBig][2]
	all, left := casts.All(good), casts.Erase(good)
	done := make(chan bool)
	for range 8 {
		go func() {
			same := true
			for range 300 {
				pos, neg := casts.Safe(good, all[0].Label)
				ofBad, _ := casts.Safe(bad, 1)
				same = same && slices.EqualFunc(casts.All(good), all, sameCast) && exactly(casts.Erase(good), left) && casts.Height(good) == 2 && !pos && neg
				same = same && len(casts.All(bad)) == 0 && exactly(casts.Erase(bad), api.Term{}) && casts.Height(bad) == 0 && !ofBad
			}
			done <- same
		}()
	}
	for range 8 {
		if !<-done {
			t.Error("another answer")
		}
	}
}
