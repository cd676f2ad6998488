package static_test

import (
	"errors"
	"testing"

	"lychgate/api"
	"lychgate/check"
	"lychgate/static"
	"lychgate/terms"
	"lychgate/types"
)

// asGradual wants Type to answer of x what check.Type does, if it is static, and to take nothing else. It tells how it ended.
func asGradual(t *testing.T, x api.Term) api.Errno {
	t.Helper()
	a, err := static.Type(x)
	b, errGradual := check.Type(x)
	var f, g *api.Fault
	errors.As(err, &f)
	errors.As(errGradual, &g)
	if static.Static(x) {
		if (f == nil) != (g == nil) || f != nil && *f != *g || f == nil && !types.Same(a, b) {
			t.Fatalf("%s: %s, %v; check tells %s, %v", shortTerm(x), short(a), err, short(b), errGradual)
		}
	} else if err == nil || len(a.Kids) != 0 || a.Kind != 0 {
		t.Fatalf("%s is not static: %s, %v", shortTerm(x), short(a), err)
	}
	if err != nil {
		return f.Code
	}
	if !types.Known(a) {
		t.Fatalf("%s: %s", shortTerm(x), short(a))
	}
	return api.OK
}

// P11.3: of a term that is static, Type answers what check.Type answers, and the type is known.
func TestStaticIsAsGradual(t *testing.T) {
	g, ended := newGrower(11), map[api.Errno]int{}
	for n := range 4000 {
		x := g.term(1 + n%6)
		takes(t, x, typeOf(t, x))
		for _, y := range []api.Term{x, g.mixed(x), annotated(x, g.spoilt), g.mixed(annotated(x, g.spoilt))} {
			y = numbered(g.random, y)
			isStatic(t, y, true)
			ended[asGradual(t, y)]++
		}
	}
	enough(t, ended, 1000, api.OK, api.ErrName, api.ErrMatch, api.ErrAgree)
}

// typeOf is the type that check.Type tells of x.
func typeOf(t *testing.T, x api.Term) api.Type {
	t.Helper()
	a, err := check.Type(x)
	if err != nil {
		t.Fatal(shortTerm(x), err)
	}
	return a
}

// P11.4: where Type takes a term, it is static, and check.Type takes it at the same type.
func TestWhatIsTakenIsStatic(t *testing.T) {
	g, ended := newGrower(12), map[api.Errno]int{}
	for n := range 4000 {
		x := g.term(1 + n%6)
		for _, y := range []api.Term{g.someOpened(x), g.someOpened(g.mixed(x)), g.someCast(x), annotated(x, g.opened)} {
			ended[asGradual(t, numbered(g.random, y))]++
		}
	}
	for _, all := range noTerms() {
		for _, x := range all {
			isStatic(t, x, false)
			ended[asGradual(t, x)]++
		}
	}
	enough(t, ended, 1000, api.OK, api.ErrGradual, api.ErrTerm)
	enough(t, ended, 5, api.ErrTooBig, api.ErrTooDeep)
}

// P11.1 and P11.2: of each annotation of these, each part alone made unknown: they are not static, and that is told where the annotation stands.
func TestEachPartMadeUnknown(t *testing.T) {
	for _, text := range []string{
		`\x:int->bool.x`, `(\x:int.x+1)(2)`, `rec f(x:int*bool):int+bool.if snd x then inl{int+bool}fst x else f(x)`, `let f:(int->int)->bool=\g:int->int.g(1)<2 in f(\x:int.x)`,
		`case inr{int+(bool*int)}[true, 1] of x.x | y.snd y`, `\f:int->int->int.\x:int.f(x)(x):int`, `if true then \x:int*int.fst x else (\x:int*int.snd x : int)`, `inl{int+(int->bool)}1 : int+(int->bool)`,
	} {
		x := term(text)
		takes(t, x, typeOf(t, x))
		places := places(x)
		for n, at := range places {
			notStatic(t, lowered(x, n), api.Fault{Code: api.ErrGradual, At: at})
		}
		if len(places) == 0 {
			t.Error(text, places)
		}
	}
}

// places are where the parts of annotations of x stand: the At of the term, once for each part.
func places(x api.Term) []int {
	var all []int
	for _, y := range allOf(x) {
		alone := over(y, func(api.Term) api.Term { return node(api.Num, 0) })
		annotated(alone, func(a api.Type) api.Type {
			for range types.Nodes(a) {
				all = append(all, y.At)
			}
			return a
		})
	}
	return all
}

// lowered is x with that one of the parts of its annotations made unknown.
func lowered(x api.Term, n int) api.Term {
	var lower func(api.Type) api.Type
	lower = func(a api.Type) api.Type {
		n--
		if n == -1 {
			return unknown()
		}
		return spread(a, lower)
	}
	return annotated(x, lower)
}

// What is told does not hang on places, but for the place of a fault.
func TestTypesDoNotHangOnPlaces(t *testing.T) {
	g := newGrower(13)
	for n := range 1000 {
		x := g.term(1 + n%6)
		a := typeOf(t, x)
		takes(t, numbered(g.random, x), a)
		takes(t, terms.Bare(x), a)
	}
}
