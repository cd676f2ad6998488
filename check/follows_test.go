package check_test

import (
	"slices"
	"strconv"
	"testing"

	"lychgate/api"
	"lychgate/check"
	"lychgate/order"
	"lychgate/terms"
	"lychgate/types"
)

// taken makes so many terms, and hands on those that have a type, each with it. It wants enough of them.
func taken(t *testing.T, seed int64, many, enough int, use func(g *grower, x api.Term, a api.Type)) {
	t.Helper()
	g, used := newGrower(seed), 0
	for n := range many {
		x := numbered(g.random, g.term(1+n%6))
		if a, err := check.Type(x); err == nil {
			used++
			use(g, x, a)
		}
		if t.Failed() {
			t.FailNow() // one is enough: the next ones would tell the same
		}
	}
	if used < enough {
		t.Errorf("only %d of %d have a type", used, many)
	}
}

// P9.3: what is taken is taken with any parts of its annotations made unknown.
func TestLessIsTakenToo(t *testing.T) {
	strictly := 0
	less := func(x api.Term, a api.Type, lower api.Term) api.Type {
		b, err := check.Type(lower)
		if !order.Terms(lower, x) {
			t.Fatal("the test's own terms")
		}
		if err != nil || !order.Less(b, a) {
			t.Errorf("%s: %s; %s: %s, %v", shortTerm(x), short(a), shortTerm(lower), short(b), err)
		}
		if !types.Same(a, b) {
			strictly++
		}
		return b
	}
	taken(t, 11, 10000, 5000, func(g *grower, x api.Term, a api.Type) {
		lower := annotated(x, g.opened)
		b := less(x, a, lower)
		less(lower, b, annotated(lower, g.opened))
		less(x, a, annotated(x, func(api.Type) api.Type { return unknown() }))
	})
	if strictly < 5000 {
		t.Errorf("only %d", strictly)
	}
}

// P9.3: of each annotation of these, each part alone.
func TestEachPartMadeUnknown(t *testing.T) {
	for _, text := range []string{
		`\x:int->bool.x`, `(\x:int.x+1)(2)`, `rec f(x:int*bool):int+bool.if snd x then inl{int+bool}fst x else f(x)`, `let f:(int->int)->bool=\g:int->int.g(1)<2 in f(\x:int.x)`,
		`case inr{int+(bool*int)}[true, 1] of x.x | y.snd y`, `\f:int->int->int.\x:int.f(x)(x):int`, `if true then \x:int*int.fst x else (\x:int*int.snd x : int)`, `inl{int+(int->bool)}1 : int+(int->bool)`,
	} {
		x := term(text)
		a, err := check.Type(x)
		if err != nil {
			t.Fatal(text, err)
		}
		for n := range parts(x) {
			lower := lowered(x, n)
			b, err := check.Type(lower)
			if err != nil || !order.Less(b, a) || !order.Terms(lower, x) || terms.Same(lower, x) {
				t.Errorf("%s: %s; %s: %s, %v", text, short(a), shortTerm(lower), short(b), err)
			}
		}
	}
}

// parts is how many parts the annotations of x have.
func parts(x api.Term) int {
	count := 0
	annotated(terms.Bare(x), func(a api.Type) api.Type {
		if a.Kind != api.Unknown {
			count += types.Nodes(a)
		}
		return a
	})
	return count
}

// lowered is x with that one of the parts of its annotations made unknown.
func lowered(x api.Term, n int) api.Term {
	var lower func(api.Type) api.Type
	lower = func(a api.Type) api.Type {
		n--
		if n == -1 {
			return unknown()
		}
		return spread(a, lower)
	}
	return annotated(terms.Bare(x), func(a api.Type) api.Type {
		if a.Kind == api.Unknown {
			return a
		}
		return lower(a)
	})
}

// P9.4: this test and the two behind it.
func TestWhatIsTakenIsClosed(t *testing.T) {
	taken(t, 12, 10000, 5000, func(g *grower, x api.Term, a api.Type) {
		if free := terms.Free(x); len(free) > 0 || types.Check(a) != api.OK {
			t.Errorf("%s: %s; free are %v", shortTerm(x), short(a), free)
		}
		mixed := g.mixed(x)
		if _, err := check.Type(mixed); err == nil && len(terms.Free(mixed)) > 0 {
			t.Errorf("%s is taken", shortTerm(mixed))
		}
	})
}

func TestTypesDoNotHangOnPlaces(t *testing.T) {
	taken(t, 13, 5000, 2500, func(g *grower, x api.Term, a api.Type) {
		takes(t, numbered(g.random, x), a)
		takes(t, terms.Bare(x), a)
	})
}

func TestNamesThatNothingRefersTo(t *testing.T) {
	renamed := 0
	taken(t, 14, 5000, 2500, func(g *grower, x api.Term, a api.Type) {
		y := withoutIdleNames(x, &renamed)
		takes(t, y, a)
	})
	if renamed < 2000 {
		t.Errorf("only %d", renamed)
	}
	takesText(t, `\idle:int.rec idle(idle:bool):?.let idle:?=true in case (1:?) of idle.1 | other.2`, "int -> bool -> ?")
}

// withoutIdleNames is x with another name for each that is bound, and that nothing refers to.
func withoutIdleNames(x api.Term, count *int) api.Term {
	idle := func(name string, kid int) bool { return !slices.Contains(terms.Free(x.Kids[kid]), name) }
	fresh := func() string { *count++; return "new_" + strconv.Itoa(*count) }
	switch {
	case x.Kind == api.Lam && idle(x.Name, 0), x.Kind == api.Let && idle(x.Name, 1), x.Kind == api.Case && idle(x.Name, 1):
		x.Name = fresh()
	case x.Kind == api.Rec && (idle(x.Name, 0) || x.Name == x.Arg):
		x.Name = fresh()
	}
	switch {
	case x.Kind == api.Rec && idle(x.Arg, 0), x.Kind == api.Case && idle(x.Arg, 2):
		x.Arg = fresh()
	}
	return over(x, func(kid api.Term) api.Term { return withoutIdleNames(kid, count) })
}

// P9.5: a kid that is closed has the type within the term that it has alone: what is told within is what is told of it alone, and in its place another closed term of its type does as well.
func TestKidsAlone(t *testing.T) {
	tried := 0
	taken(t, 15, 6000, 3000, func(g *grower, x api.Term, a api.Type) {
		_, _, told := ruled(x)
		for _, place := range places(x) {
			kid := within(x, place)
			alone, err := check.Type(kid)
			if len(terms.Free(kid)) > 0 {
				if err == nil {
					t.Errorf("%s is taken", shortTerm(kid))
				}
				continue
			}
			if err != nil || !types.Same(alone, told[kid.At]) {
				t.Errorf("%s: alone %s, %v; in %s %s", shortTerm(kid), short(alone), err, shortTerm(x), short(told[kid.At]))
			}
			takes(t, put(x, place, closed(alone)), a)
			tried++
		}
	})
	if tried < 10000 {
		t.Errorf("only %d", tried)
	}
}

// closed is a closed term of that type, which is nothing but that.
func closed(a api.Type) api.Term {
	bottom := api.Term{Kind: api.Is, Kids: []api.Term{node(api.Yes, -1)}}
	return api.Term{Kind: api.Is, Type: a, At: -1, Kids: []api.Term{bottom}}
}

// places are the ways to all terms within x: which kid, and of that which one.
func places(x api.Term) [][]int {
	var all [][]int
	for n, kid := range x.Kids {
		all = append(all, []int{n})
		for _, place := range places(kid) {
			all = append(all, append([]int{n}, place...))
		}
	}
	return all
}

// within is the term at that place of x.
func within(x api.Term, place []int) api.Term {
	for _, n := range place {
		x = x.Kids[n]
	}
	return x
}

// put is x with another term at that place.
func put(x api.Term, place []int, y api.Term) api.Term {
	if len(place) == 0 {
		return y
	}
	x.Kids = slices.Clone(x.Kids)
	x.Kids[place[0]] = put(x.Kids[place[0]], place[1:], y)
	return x
}
