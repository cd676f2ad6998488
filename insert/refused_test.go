package insert_test

import (
	"math"
	"strings"
	"testing"

	"lychgate/api"
	"lychgate/insert"
	"lychgate/samples"
	"lychgate/terms"
)

// P12.1, this test and those behind it: check.Type's errors, at its places.
func TestWhatCheckRefuses(t *testing.T) {
	refusesText(t, `1^(2)`, api.ErrMatch, "")
	refusesText(t, `\x:?.[x, ^y]`, api.ErrName, "y")
	refusesText(t, `(\x:int.x)^(true)`, api.ErrAgree, "")
	refusesText(t, `inl{?}^fst 1`, api.ErrMatch, "")
	refusesText(t, `^inr{int}1`, api.ErrMatch, "")
	refusesText(t, `\x:?.if x then 1 else ^let y:int=true in x`, api.ErrAgree, "")
	refusesText(t, `[1:?, 2:?:int:?:bool^:int:?]`, api.ErrAgree, "")
	refusesText(t, `(1:?)(^rec f(x:?):int.\y:?.x)`, api.ErrAgree, "")
	refusesText(t, `case (1:?) of x.x | y.^x`, api.ErrName, "x")
}

// R10: what is no term is refused ahead of all else.
func TestWhatIsNoTerm(t *testing.T) {
	for code, all := range samples.NoTerms() {
		for _, x := range all {
			refuses(t, x, api.Fault{Code: code})
			for _, ahead := range []api.Term{name("y", 9), term(`1:?`), api.Term{Kind: api.Is, Kids: []api.Term{node(api.Yes, -1)}}} {
				both := node(api.Two, 4, ahead, x)
				refuses(t, both, api.Fault{Code: terms.Check(both)})
			}
		}
	}
}

// A Cast, wherever it is, is refused at 0, even one that would not be put in otherwise.
func TestCasts(t *testing.T) {
	cast := samples.EveryKind()[api.Cast]
	cast.At, cast.Kids = 3, []api.Term{node(api.Num, 4)}
	for _, x := range samples.Around(cast) {
		x.At = 9
		refuses(t, x, api.Fault{Code: api.ErrTerm})
		refuses(t, node(api.Two, 5, name("y", 6), x), api.Fault{Code: api.ErrTerm})
		refuses(t, node(api.Two, 5, node(api.Fst, 6, node(api.Yes, 7)), x), api.Fault{Code: api.ErrTerm})
		refuses(t, node(api.Two, 5, x, api.Term{Kind: api.Is, Kids: []api.Term{node(api.Yes, -1)}}), api.Fault{Code: api.ErrTerm})
	}
	twice, _, err := insert.Term(term(`1:?`))
	if err != nil {
		t.Fatal(err)
	}
	refuses(t, twice, api.Fault{Code: api.ErrTerm})
}

// castOnce are terms in which just one term is to be cast, which stands there; all others stand at -5.
func castOnce(t *testing.T, at int) []api.Term {
	var all []api.Term
	for _, marked := range []string{
		`rec f(x:?):int.^x`, `rec f(x:int):?.^x`, `\x:?.^x(x)`, `(\x:?.x)(^1)`, `let x:?=^1 in x`, `\x:?.if ^x then 1 else 2`, `\x:?.if true then ^x else 1`, `\x:?.if true then 1 else ^x`, `\x:?.fst ^x`, `\x:?.snd ^x`,
		`inl{?}^1`, `inr{?}^1`, `\x:?.case ^x of y.1 | y.2`, `\x:?+int.case x of y.^y | z.z`, `\x:int+?.case x of y.y | z.^z`, `\x:?.^x+1`, `\x:?.1<^x`, `^1:?`, `\x:?.^x:int`, `\x:?.[x, ^[x, 2]:?*?]`,
		`^true:?`, `^false:?`, `(^\x:int.x):?`, `(^rec f(x:int):int.x):?->?`, `(\x:int.x)^(1):?`, `(^let x:int=1 in x):?`, `(^if true then 1 else 2):?`, `^[1, 2]:?`, `^fst[1, 2]:?`, `^snd[1, 2]:?`, `^inl{int+int}1:?`, `^inr{?+int}1:?`, `(^case inl{int+int}1 of x.x | y.y):?`, `1^+2:?`, `1<2:bool^:bool:?`,
	} {
		place, text := strings.Index(marked, "^"), strings.Replace(marked, "^", "", 1)
		found := 0
		var moved func(x api.Term) api.Term
		moved = func(x api.Term) api.Term {
			if x.At == place {
				found++
				x.At = at
			} else {
				x.At = -5
			}
			return over(x, moved)
		}
		all = append(all, moved(term(text)))
		if found != 1 {
			t.Fatalf("the test's own text: %s", marked)
		}
	}
	return all
}

// A term that is to be cast must stand where a label can tell it; others may stand anywhere.
func TestPlacesThatNoLabelTells(t *testing.T) {
	for _, at := range []int{-1, -2, -5, math.MinInt32, math.MinInt, math.MaxInt32, math.MaxInt} {
		for _, x := range castOnce(t, at) {
			refuses(t, x, api.Fault{Code: api.ErrArg})
		}
	}
	for _, at := range []int{0, 1, 1000, math.MaxInt32 - 2, math.MaxInt32 - 1} {
		for _, x := range castOnce(t, at) {
			u, _, err := insert.Term(x)
			if err != nil || castsOf(u) != 1 {
				t.Fatalf("%s: %v, %s", shortTerm(x), err, written(u))
			}
			for _, y := range allOf(u) {
				if y.Kind == api.Cast && (y.At != at || y.Label != at+1 || y.Kids[0].At != at && y.Kids[0].At != -5) || y.Kind != api.Cast && y.Label != 0 {
					t.Errorf("%s: %s at %d", shortTerm(x), written(y), y.At)
				}
			}
		}
	}
	for _, at := range []int{-1, math.MinInt, math.MaxInt32, math.MaxInt} {
		for _, source := range []string{`1`, `\x:?.x`, `rec f(x:int):?.f(x)`, `\x:?.[x, inl{?}x]`, `if 1<2 then [1, true] else [2, false]`, `case inl{int+int}1 of x.x | y.2`, `let x:int=1:int in x+x`} {
			x := term(source)
			u, a, err := insert.Term(x)
			if err != nil {
				t.Fatal(source, err)
			}
			becomes(t, allAt(x, at), allAt(u, at), a)
		}
	}
}

// allAt is x with all terms in it there.
func allAt(x api.Term, at int) api.Term {
	x.At = at
	return over(x, func(kid api.Term) api.Term { return allAt(kid, at) })
}

// ErrArg is told at 0, behind all of check's errors, wherever they are.
func TestPlacesBehindCheck(t *testing.T) {
	bad := api.Term{Kind: api.Is, At: 3, Kids: []api.Term{node(api.Yes, -1)}} // true:?
	refuses(t, bad, api.Fault{Code: api.ErrArg})
	refuses(t, node(api.Two, 4, bad, name("x", 9)), api.Fault{Code: api.ErrName, At: 9, Word: "x"})
	refuses(t, node(api.Two, 4, bad, term(`fst 1`)), api.Fault{Code: api.ErrMatch})
	refuses(t, node(api.Op, 4, bad, term(`1`)), api.Fault{Code: api.ErrTerm})
	refuses(t, api.Term{Kind: api.Op, Name: "+", At: 8, Kids: []api.Term{bad, node(api.Yes, 1)}}, api.Fault{Code: api.ErrAgree, At: 8})
	refuses(t, node(api.Two, 4, term(`1:?`), bad), api.Fault{Code: api.ErrArg})
	refuses(t, node(api.Two, -4, bad, bad), api.Fault{Code: api.ErrArg})
}
