package parts_test

import (
	"slices"
	"testing"

	"lychgate/api"
	"lychgate/parts"
	"lychgate/samples"
	"lychgate/terms"
	"lychgate/types"
)

// The types of a term itself that count are those which a term of its kind has by chapter 3; those of its kids are not among them.
func TestTypes(t *testing.T) {
	first, second, third := samples.Type("int"), samples.Type("? * ?"), samples.Type("bool")
	both := []int8{api.Rec, api.Cast}
	one := []int8{api.Lam, api.Let, api.Inl, api.Inr, api.Is}
	for _, x := range samples.EveryKind() {
		x.Type, x.To = first, second
		for n := range x.Kids {
			x.Kids[n] = api.Term{Kind: api.Is, Type: third, Kids: []api.Term{samples.Name("x")}}
		}
		var want []api.Type
		switch {
		case slices.Contains(both, x.Kind):
			want = []api.Type{first, second}
		case slices.Contains(one, x.Kind):
			want = []api.Type{first}
		}
		if l := parts.Types(x); !slices.EqualFunc(l, want, types.Same) {
			t.Errorf("kind %d: %v; want %v", x.Kind, l, want)
		}
	}
	for _, kind := range []int8{-1, 18, 127} {
		if l := parts.Types(api.Term{Kind: kind, Type: first, To: second}); len(l) > 0 {
			t.Errorf("kind %d: %v", kind, l)
		}
	}
}

// A copy is the same, where it stood, and without what does not count.
func TestCopy(t *testing.T) {
	for _, inner := range samples.EveryKind() {
		for n, x := range samples.Around(inner) {
			x.At = n - 3
			if y := parts.Copy(x); !samples.Exactly(y, x) {
				t.Errorf("%s: %v", samples.ShortTerm(x), y)
			}
			if y := parts.Copy(samples.Littered(x)); !samples.Exactly(y, x) {
				t.Errorf("%s, littered: %v", samples.ShortTerm(x), y)
			}
		}
	}
}

// Of what is no term the zero term is told.
func TestCopyOfNone(t *testing.T) {
	for _, all := range samples.NoTerms() {
		for _, x := range all {
			if y := parts.Copy(x); !samples.Exactly(y, api.Term{}) {
				t.Errorf("%s: %v", samples.ShortTerm(x), y)
			}
		}
	}
}

// A copy shares no list with the term, nor with itself.
func TestCopySharesNothing(t *testing.T) {
	pair := samples.Type("? * (int -> ?)")
	x := samples.Cast(pair, pair, 1, samples.Term(`\x:int*?.[x, rec f(y:?->?):?+?.y]`))
	x = samples.Node(api.Two, x, x)
	y := parts.Copy(x)
	if samples.Shares(samples.TypeLists(y), samples.TypeLists(x)) || samples.Shares(samples.TermLists(y), samples.TermLists(x)) {
		t.Error("a list is shared")
	}
	if !terms.Same(x, y) {
		t.Error(y)
	}
}
