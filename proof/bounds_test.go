package proof_test

import (
	"testing"

	"lychgate/api"
	"lychgate/proof"
	"lychgate/terms"
	"lychgate/types"
)

// held is a text's term, in which x is of that type.
func held(a api.Type, text string) api.Term {
	return api.Term{Kind: api.Let, Name: "x", Type: a, Kids: []api.Term{term(`true:?`), term(text)}}
}

// heldBy is what would be the derivation of that: of the text's term by p.
func heldBy(p api.Proof) api.Proof {
	return by("Let", p.Type, derived("Is ? (Yes bool)"), p)
}

// P10.1 and P10.2, this test and the next two: derivations whose types are just within the bounds, and a little beyond.
func TestTypesThatAreTooBig(t *testing.T) {
	half := balanced(api.Pair, 2048, integer()) // 4095 nodes
	x, num := by("Var", half), derived("Num int")
	two := func(l, r api.Proof) api.Proof { return by("Two", of(api.Pair, l.Type, r.Type), l, r) }
	for text, p := range map[string]api.Proof{`x`: x, `[x, x]`: two(x, x), `fst [x, x]`: by("Fst", half, two(x, x)), `[[x, 1], 2]`: two(two(x, num), num)} {
		finds(t, held(half, text), heldBy(p))
	}
	bare := two(x, two(x, num)) // 8193 nodes
	if types.Check(bare.Type) != api.ErrTooBig || types.Check(two(x, x).Type) != api.OK {
		t.Fatal("the test's own types")
	}
	for text, p := range map[string]api.Proof{`[x, [x, 1]]`: bare, `fst [x, [x, 1]]`: by("Fst", half, bare), `(\y:?.1)([x, [x, 1]])`: by("App", integer(), derived("Lam ? -> int (Num int)"), bare), `\y:?.[x, x]`: by("Lam", of(api.Fun, unknown(), two(x, x).Type), two(x, x))} {
		none(t, held(half, text), heldBy(p))
	}
}

// A Meet may be greater than both.
func TestMeetsThatAreTooBig(t *testing.T) {
	half := balanced(api.Sum, 2048, boolean())
	x, open, num := by("Var", half), derived("Is ? (Num int)"), derived("Num int")
	two := func(l, r api.Proof) api.Proof { return by("Two", of(api.Pair, l.Type, r.Type), l, r) }
	choice := func(a api.Type, l, r api.Proof) api.Proof {
		return by("If", a, derived("Yes bool"), l, r)
	}
	finds(t, held(half, `if true then [x, 1:?] else [1:?, x]`), heldBy(choice(of(api.Pair, half, half), two(x, open), two(open, x))))
	meet := choice(of(api.Pair, half, of(api.Pair, half, integer())), two(x, open), two(open, two(x, num)))
	none(t, held(half, `if true then [x, 1:?] else [1:?, [x, 1]]`), heldBy(meet))
	none(t, held(half, `snd snd (if true then [x, 1:?] else [1:?, [x, 1]])`), heldBy(by("Snd", integer(), by("Snd", of(api.Pair, half, integer()), meet))))
	branches := by("Case", meet.Type, derived("Is ? (Num int)"), meet.Kids[1], meet.Kids[2])
	none(t, held(half, `case (1:?) of y.[x, 1:?] | y.[1:?, [x, 1]]`), heldBy(branches))
}

func TestTypesThatAreTooDeep(t *testing.T) {
	num := derived("Num int")
	for _, right := range []bool{false, true} {
		for _, kind := range []int8{api.Fun, api.Pair, api.Sum} {
			deep := chain(kind, 199, right, boolean())
			x := by("Var", deep)
			two := by("Two", of(api.Pair, deep, integer()), x, num)
			finds(t, held(deep, `x`), heldBy(x))
			finds(t, held(deep, `[x, 1]`), heldBy(two))
			finds(t, held(deep, `fst [x, 1]`), heldBy(by("Fst", deep, two)))
			three := by("Two", of(api.Pair, two.Type, integer()), two, num)
			none(t, held(deep, `[[x, 1], 1]`), heldBy(three))
			none(t, held(deep, `snd [[x, 1], 1]`), heldBy(by("Snd", integer(), three)))
			lam := api.Term{Kind: api.Lam, Name: "x", Type: deep, Kids: []api.Term{name("x")}}
			finds(t, lam, by("Lam", of(api.Fun, deep, deep), x))
			lam.Kids = []api.Term{node(api.Two, name("x"), term(`1`))}
			none(t, lam, by("Lam", of(api.Fun, deep, two.Type), two))
		}
	}
}

// none wants no derivation of x, and p to be none.
func none(t *testing.T, x api.Term, p api.Proof) {
	t.Helper()
	findsNone(t, x, api.ErrProof)
	proves(t, p, x, false)
}

// R1, R3: the greatest terms, with great types in them, have their derivations in good time, each type in it with lists of its own.
func TestTheGreatest(t *testing.T) {
	big := balanced(api.Pair, 1024, unknown())
	choice := name("x")
	want := by("Var", big)
	for range 10 {
		choice = node(api.If, node(api.Yes), choice, choice)
		want = by("If", big, derived("Yes bool"), want, want)
	}
	whole := held(big, "x")
	whole.Kids[1] = choice
	if nodes := terms.Nodes(whole); nodes > api.MaxNodes {
		t.Fatal(nodes)
	}
	finds(t, whole, heldBy(want))

	deep, p := term(`1`), derived("Num int")
	for range 199 {
		deep, p = api.Term{Kind: api.Rec, Name: "f", Arg: "x", Kids: []api.Term{deep}}, by("Rec", typed("? -> ?"), p)
	}
	finds(t, deep, p)
	for range 10 {
		deep, p = deep.Kids[0], p.Kids[0]
	}
	for range 10 {
		deep, p = node(api.Two, deep, term(`2`)), by("Two", of(api.Pair, p.Type, integer()), p, derived("Num int"))
	}
	finds(t, deep, p)
	proves(t, p.Kids[0], deep, false)
	if q, e := proof.Find(deep.Kids[0]); e != api.OK || !same(q, p.Kids[0]) {
		t.Error(e)
	}
}
