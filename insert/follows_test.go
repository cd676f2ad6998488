package insert_test

import (
	"slices"
	"testing"

	"lychgate/agree"
	"lychgate/api"
	"lychgate/casts"
	"lychgate/check"
	"lychgate/insert"
	"lychgate/kernel"
	"lychgate/parse"
	"lychgate/show"
	"lychgate/static"
	"lychgate/terms"
	"lychgate/types"
)

// inserted makes so many terms, opens their annotations, and hands on what each becomes, and its type.
func inserted(t *testing.T, seed int64, many int, use func(g *grower, x, u api.Term, a api.Type)) {
	t.Helper()
	g, count := newGrower(seed), 0
	for n := range many {
		x := numbered(g.random, annotated(g.Term(1+n%6), g.Opened))
		u, a, err := insert.Term(x)
		if err != nil {
			t.Fatal(shortTerm(x), err)
		}
		count += castsOf(u)
		use(g, x, u, a)
		if t.Failed() {
			t.FailNow() // one is enough: the next ones would tell the same
		}
	}
	if count < many {
		t.Errorf("only %d Casts in %d terms", count, many)
	}
}

// P12.2: what is told is taken by kernel, at the type that is told, which is check's. There is no Is in it; each Cast goes between two types that agree and are not the same.
func TestWhatIsToldIsTaken(t *testing.T) {
	inserted(t, 11, 6000, func(_ *grower, x, u api.Term, a api.Type) {
		b, e := kernel.Type(u)
		c, err := check.Type(x)
		if e != api.OK || err != nil || !types.Same(a, b) || !types.Same(a, c) {
			t.Errorf("%s of %s: %s of %s; %v", shortTerm(x), short(c), written(u), short(a), e)
		}
		for _, y := range allOf(u) {
			if y.Kind == api.Is || y.Kind == api.Cast && (!agree.Agree(y.Type, y.To) || types.Same(y.Type, y.To)) {
				t.Errorf("%s: %s in %s", shortTerm(x), written(y), written(u))
			}
		}
		if e := terms.Check(u); e != api.OK {
			t.Errorf("%s: %v", shortTerm(x), e)
		}
	})
}

// withoutIs is x without its Is.
func withoutIs(x api.Term) api.Term {
	for x.Kind == api.Is {
		x = x.Kids[0]
	}
	return over(x, withoutIs)
}

// P12.3: a static term has no cast put in, and changes but for its Is.
func TestStaticTerms(t *testing.T) {
	unchanged := func(x api.Term) {
		t.Helper()
		a, err := static.Type(x)
		if err != nil {
			t.Fatal("the test's own term", shortTerm(x), err)
		}
		becomes(t, x, withoutIs(x), a)
	}
	g, ascribed := newGrower(12), 0
	for n := range 4000 {
		x := numbered(g.random, g.Term(1+n%6))
		unchanged(x)
		for _, y := range allOf(x) {
			if y.Kind == api.Is {
				ascribed++
			}
		}
	}
	if ascribed < 1000 {
		t.Errorf("only %d Is", ascribed)
	}
	for _, text := range []string{
		`\x:int->bool.x`, `(\x:int.x+1)(2)`, `rec f(x:int*bool):int+bool.if snd x then inl{int+bool}fst x else f(x)`, `let f:(int->int)->bool=\g:int->int.g(1)<2 in f(\x:int.x)`, `case inr{int+(bool*int)}[true, 1] of x.x | y.snd y`,
		`\f:int->int->int.\x:int.f(x)(x):int`, `if true then \x:int*int.fst x else (\x:int*int.snd x : int)`, `inl{int+(int->bool)}1 : int+(int->bool)`, `(1:int:int)+(2:int)`, `fst ([1:int, true]:int*bool)`,
	} {
		unchanged(term(text))
	}
	bad := allAt(term(`[1:int, (\x:int.x)(2)]:int*int`), -1) // nothing is to be cast, so that it may stand anywhere
	unchanged(bad)
}

// sumsAlike is x with one type for all Inl and Inr.
func sumsAlike(x api.Term) api.Term {
	if x.Kind == api.Inl || x.Kind == api.Inr {
		x.Type = unknown()
	}
	return over(x, sumsAlike)
}

// P12.4: of what came out of a text all labels are above 0, and unlike one another, and each Cast stands over what its label tells. Without Casts it is what it was without Is, but for the Types of Inl and Inr.
func TestLabelsOfTexts(t *testing.T) {
	labels := 0
	fromText := func(text string) {
		t.Helper()
		x, err := parse.Term(text)
		if err != nil {
			t.Fatal(text, err)
		}
		u, _, err := insert.Term(x)
		if err != nil {
			t.Fatal(text, err)
		}
		var seen []int
		for _, y := range allOf(u) {
			if y.Kind != api.Cast {
				continue
			}
			if y.Label <= 0 || slices.Contains(seen, y.Label) || y.Label != y.At+1 {
				t.Errorf("%s: %s", text, written(u))
			}
			if !slices.ContainsFunc(allOf(x), func(z api.Term) bool { return z.At == y.At }) {
				t.Errorf("%s: nothing stands at %d", text, y.At)
			}
			seen = append(seen, y.Label)
		}
		labels += len(seen)
		if v, w := casts.Erase(u), withoutIs(x); !terms.Same(sumsAlike(v), sumsAlike(w)) {
			t.Errorf("%s: without Casts %s; without Is %s", text, written(v), written(w))
		}
	}
	inserted(t, 13, 4000, func(_ *grower, x, _ api.Term, _ api.Type) {
		if text, e := show.Text(x); e == api.OK {
			fromText(text)
		}
	})
	if labels < 4000 {
		t.Errorf("only %d labels", labels)
	}
	for _, text := range []string{`1:?:int:?:bool:?`, `(1:?)(2)(3)(4:int)`, `\x:?.x(x)(x)(x)`, `inl{?}inr{?}inl{?}1`, `\x:?.fst snd fst x`, `(1:?)+(2:?)*(3:?)<(4:?)`} {
		fromText(text)
	}
}

// The types of Inl and Inr are sums, whatever they were: those that were are as they were.
func TestSumsAreSums(t *testing.T) {
	inserted(t, 14, 3000, func(_ *grower, x, u api.Term, _ api.Type) {
		before, after := allOf(withoutIs(x)), allOf(casts.Erase(u))
		for n, y := range after {
			if y.Kind != api.Inl && y.Kind != api.Inr {
				continue
			}
			if was := before[n].Type; was.Kind == api.Sum && !types.Same(y.Type, was) || was.Kind == api.Unknown && !types.Same(y.Type, typed("? + ?")) {
				t.Errorf("%s: %s in %s", shortTerm(x), written(y), written(u))
			}
		}
	})
}
