package order_test

import (
	"fmt"
	"slices"
	"testing"

	"lychgate/api"
	"lychgate/order"
	"lychgate/parse"
	"lychgate/scan"
	"lychgate/show"
	"lychgate/types"
)

func of(kind int8, kids ...api.Type) api.Type { return api.Type{Kind: kind, Kids: kids} }

func unknown() api.Type { return of(api.Unknown) }

func integer() api.Type { return of(api.Int) }

func boolean() api.Type { return of(api.Bool) }

func pair(a, b api.Type) api.Type { return of(api.Pair, a, b) }

// typed is the type that a text tells.
func typed(text string) api.Type {
	words, err := scan.All(text)
	if err != nil {
		panic(err)
	}
	a, next, err := types.Read(words, 0)
	if err != nil || words[next].Kind != api.WordEnd {
		panic(text)
	}
	return a
}

// term is the term that a text tells.
func term(text string) api.Term {
	x, err := parse.Term(text)
	if err != nil {
		panic(text + ": " + err.Error())
	}
	return x
}

// down is a type so many types deep, with another one at its bottom, as the left or the right part.
func down(kind int8, depth int, right bool, bottom api.Type) api.Type {
	for range depth - types.Depth(bottom) {
		if right {
			bottom = of(kind, integer(), bottom)
		} else {
			bottom = of(kind, bottom, integer())
		}
	}
	return bottom
}

// full is a type of 2^depth - 1 nodes, whose parts are shared.
func full(kind int8, depth int, bottom api.Type) api.Type {
	for range depth - 1 {
		bottom = of(kind, bottom, bottom)
	}
	return bottom
}

// endless is a type that lies within itself.
func endless(kind int8) api.Type {
	kids := make([]api.Type, 2)
	kids[0], kids[1] = integer(), of(kind, kids...)
	return kids[1]
}

// noTypes are no types, for all sorts of causes.
func noTypes() []api.Type {
	i, u := integer(), unknown()
	return []api.Type{
		of(6), of(-1), of(127), of(-128), of(6, i, i), of(6, u, u),
		of(api.Unknown, i), of(api.Unknown, u, u), of(api.Int, i), of(api.Bool, i, i),
		of(api.Fun), of(api.Fun, i), of(api.Fun, i, i, i), of(api.Pair), of(api.Pair, u), of(api.Pair, u, u, u), of(api.Sum), of(api.Sum, i, i, i, i),
		pair(of(6), i), pair(i, of(6)), pair(of(api.Int, u), u), of(api.Sum, i, pair(u, of(api.Unknown, u))), of(api.Fun, of(api.Fun), of(api.Fun)),
		down(api.Fun, 200, true, of(6)), full(api.Pair, 13, of(-1)),
		of(api.Fun, i, down(api.Fun, 200, true, i)), of(api.Sum, down(api.Sum, 200, false, u), u), down(api.Pair, 4096, false, i), down(api.Fun, 3000, true, u),
		full(api.Sum, 14, i), pair(full(api.Pair, 12, i), pair(full(api.Pair, 12, i), i)), full(api.Pair, 40, u), full(api.Fun, 100, of(9)),
		endless(api.Fun), endless(api.Sum), endless(99), endless(api.Unknown),
	}
}

// everyType are all types up to a depth.
func everyType(depth int) []api.Type {
	all := []api.Type{unknown(), integer(), boolean()}
	if depth == 1 {
		return all
	}
	parts := everyType(depth - 1)
	for kind := int8(api.Fun); kind <= api.Sum; kind++ {
		for _, l := range parts {
			for _, r := range parts {
				all = append(all, of(kind, l, r))
			}
		}
	}
	return all
}

// short is what a looks like: its text, or, of one that is none, how it begins.
func short(a api.Type) string {
	if text, e := types.Text(a); e == api.OK {
		return fmt.Sprintf("%.200s", text)
	}
	if types.Check(a) == api.ErrTooBig {
		return "one too great"
	}
	return fmt.Sprintf("%.200s", fmt.Sprint(a))
}

// shortTerm is what x looks like.
func shortTerm(x api.Term) string {
	text, e := show.Text(x)
	if e != api.OK {
		return e.Error()
	}
	return fmt.Sprintf("%.200s", text)
}

// same tells whether a and b are the same, of whatever size; a kind that is none is one like any other.
func same(a, b api.Type) bool {
	return a.Kind == b.Kind && slices.EqualFunc(a.Kids, b.Kids, same)
}

// less wants an answer of Less.
func less(t *testing.T, a, b api.Type, want bool) {
	t.Helper()
	if order.Less(a, b) != want {
		t.Errorf("Less(%s, %s) is not %v", short(a), short(b), want)
	}
}

// meets wants two types to meet in a third, whichever of the two is handed in first.
func meets(t *testing.T, a, b, want api.Type) {
	t.Helper()
	for _, x := range [][2]api.Type{{a, b}, {b, a}} {
		if m, ok := order.Meet(x[0], x[1]); !ok || !same(m, want) {
			t.Errorf("Meet(%s, %s) = %s, %v; want %s", short(x[0]), short(x[1]), short(m), ok, short(want))
		}
	}
}

// meetNot wants two types not to meet, whichever of them is handed in first.
func meetNot(t *testing.T, a, b api.Type) {
	t.Helper()
	for _, x := range [][2]api.Type{{a, b}, {b, a}} {
		if m, ok := order.Meet(x[0], x[1]); ok || m.Kind != api.Unknown || len(m.Kids) != 0 {
			t.Errorf("Meet(%s, %s) = %s, %v; want nothing", short(x[0]), short(x[1]), short(m), ok)
		}
	}
}

// lessTerms wants an answer of Terms.
func lessTerms(t *testing.T, a, b api.Term, want bool) {
	t.Helper()
	if order.Terms(a, b) != want {
		t.Errorf("Terms(%s, %s) is not %v", shortTerm(a), shortTerm(b), want)
	}
}
