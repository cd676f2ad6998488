package insert_test

import (
	"errors"
	"slices"
	"testing"

	"lychgate/api"
	"lychgate/insert"
	"lychgate/samples"
	"lychgate/types"
)

// P12.1: fields that do not count make no difference, and are empty in what is told.
func TestFieldsThatDoNotCount(t *testing.T) {
	for _, text := range []string{`\x:?.x+1`, `rec f(x:?):bool.f(x)`, `if true then 1 else (2:?)`, `case (1:?) of x.fst x | y.2`, `let x:?=1 in [snd [x, false], true]`, `inr{int+?}(1<2)`, `inl{?}(1=2)`, `(\x:?.x)(false)`, `-3:?`} {
		x := term(text)
		u, a, err := insert.Term(x)
		if err != nil {
			t.Fatal(text, err)
		}
		becomes(t, samples.Littered(x), u, a)
	}
}

// R3: what is handed in stays as it is, with the room behind the ends of its lists.
func TestArgumentsStay(t *testing.T) {
	parts := []api.Type{of(api.Pair, unknown(), boolean()), unknown(), of(77), of(78)}
	sum := of(api.Sum, parts[:2]...)
	kids := []api.Term{name("x", 1), api.Term{Kind: api.Inl, Type: unknown(), At: 2, Kids: []api.Term{name("x", 3)}}, name("none", 4), name("none", 5)}
	ofLam := []api.Term{node(api.Two, 6, kids[:2]...), name("none", 7)}
	x := api.Term{Kind: api.Lam, Name: "x", Type: sum, Kids: ofLam[:1]}
	u, _, err := insert.Term(x)
	if want := `\x:? * bool + ?.[x, inl{? + ?}(<? * bool + ? => ?>4 x)]`; err != nil || written(u) != want {
		t.Error(written(u), err)
	}
	refuses(t, node(api.Fst, 8, x), api.Fault{Code: api.ErrMatch, At: 8})
	if !types.Same(parts[0], typed("? * bool")) || !types.Same(parts[1], unknown()) || parts[2].Kind != 77 || parts[3].Kind != 78 {
		t.Errorf("types: now %v", parts)
	}
	if !exactly(kids[0], name("x", 1)) || kids[1].Kind != api.Inl || !types.Same(kids[1].Type, unknown()) || !exactly(kids[1].Kids[0], name("x", 3)) || !exactly(kids[2], name("none", 4)) || !exactly(kids[3], name("none", 5)) {
		t.Errorf("terms: now %v", kids)
	}
	if !exactly(ofLam[1], name("none", 7)) || ofLam[0].Kind != api.Two {
		t.Errorf("terms: now %v", ofLam)
	}
}

// once wants no list of told among others, nor there twice.
func once[T any](t *testing.T, what string, told, others []*T) {
	t.Helper()
	if samples.Shares(told, others) {
		t.Errorf("%s shares a list", what)
	}
}

// spoilType writes into all lists of a, spoilTerm into all of x.
func spoilType(a api.Type) {
	for n := range a.Kids {
		spoilType(a.Kids[n])
		a.Kids[n] = of(99)
	}
}

func spoilTerm(x api.Term) {
	spoilType(x.Type)
	spoilType(x.To)
	for n := range x.Kids {
		spoilTerm(x.Kids[n])
		x.Kids[n] = api.Term{Kind: 99}
	}
}

// R3: an answer shares no list with what was handed in, nor with itself, nor with another answer.
func TestAnswersShareNothing(t *testing.T) {
	for _, text := range []string{
		`\x:int*?.x`, `\x:int->?.[x, x]`, `rec f(x:int*?):?*int.x`, `let x:?*int=[1, 2] in [x, x]`, `let x:int*?=[1, true] in x`, `[1, 2]:?*int`, `inl{(?->int)+(int->?)}(\x:int.x)`, `inr{bool+int*?}[1, 2]`, `inl{?}[1, 2]`,
		`if true then \x:int*?.x else \y:?*int.y`, `let x:int*int=[1, 2] in if true then x else (x:?)`, `case (1:?) of x.[[1, 2], [x, x]] | y.[[2, 1], [y, 1]]`, `case inl{(int*?)+(?*int)}[1, 2] of x.[x, x] | y.[y, y]`,
		`fst ([[1, 2], 2]:?*int)`, `(\x:int*?.[x, x])([1, 2])`, `snd [1, \x:int*?.x]`, `(\f:(?->int)*int.fst f)([\x:int.x, 1])(2)`,
	} {
		x := term(text)
		u, a, err := insert.Term(x)
		v, b, errToo := insert.Term(x)
		if err != nil || errToo != nil || !exactly(u, v) || !types.Same(a, b) {
			t.Fatal(text, err, errToo)
		}
		once(t, text, append(samples.TypeLists(u), samples.Lists(a)...), slices.Concat(samples.TypeLists(v), samples.Lists(b), samples.TypeLists(x)))
		once(t, text, samples.TermLists(u), slices.Concat(samples.TermLists(v), samples.TermLists(x)))
		spoilTerm(u)
		spoilType(a)
		becomes(t, x, v, b)
	}
}

// R3: a term whose parts are shared is told of with each part apart.
func TestSharedParts(t *testing.T) {
	pair := typed("? * (int -> ?)")
	x := api.Term{Kind: api.Lam, Name: "x", Type: pair, At: 1, Kids: []api.Term{api.Term{Kind: api.Is, Type: pair, At: 2, Kids: []api.Term{name("x", 3)}}}}
	both := node(api.Two, 4, x, x)
	whole := node(api.Two, 5, both, both)
	u, a, err := insert.Term(whole)
	if err != nil {
		t.Fatal(err)
	}
	once(t, "shared", append(samples.TypeLists(u), samples.Lists(a)...), samples.TypeLists(whole))
	once(t, "shared", samples.TermLists(u), samples.TermLists(whole))
}

// R2: how many goroutines work changes no answer, and nothing is left behind.
func TestManyAtATime(t *testing.T) {
	good, bad, badly, big := term(`\x:?.[\y:int.[x+y, y], \y:?.if y then x else 1]`), term(`\x:?.[\y:bool.y, y]`), term(`(1:?)(2)`), samples.NoTerms()[api.ErrTooBig][2]
	badly.Kids[1].At = -1
	want, ofType, err := insert.Term(good)
	if err != nil || castsOf(want) != 3 {
		t.Fatal(written(want), err)
	}
	done := make(chan error)
	for range 8 {
		go func() {
			var all error
			for range 300 {
				u, a, err := insert.Term(good)
				_, _, errBad := insert.Term(bad)
				_, _, errBadly := insert.Term(badly)
				_, _, errBig := insert.Term(big)
				if err != nil || !exactly(u, want) || !types.Same(a, ofType) || errBad == nil || errBad.Error() != "17: error 41: y" || errBadly == nil || errBadly.Error() != "0: error 2: " || !errors.Is(errBig, api.ErrTooBig) {
					all = errors.Join(all, errors.New("another answer"), err, errBad, errBadly, errBig)
				}
			}
			done <- all
		}()
	}
	for range 8 {
		if err := <-done; err != nil {
			t.Error(err)
		}
	}
}
