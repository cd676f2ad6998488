package kernel_test

import (
	"errors"
	"testing"

	"lychgate/agree"
	"lychgate/api"
	"lychgate/check"
	"lychgate/kernel"
	"lychgate/samples"
	"lychgate/static"
	"lychgate/terms"
	"lychgate/types"
)

// asStatic wants of an x without Cast and Is what static.Type tells of it, if it is static. It tells how it ended.
func asStatic(t *testing.T, x api.Term) api.Errno {
	t.Helper()
	if !static.Static(x) || samples.Count(x, api.Is) > 0 {
		t.Fatal("the test's own term:", shortOf(x))
	}
	want, err := static.Type(x)
	code := api.OK
	switch {
	case errors.Is(err, api.ErrTooBig):
		code = api.ErrTooBig
	case errors.Is(err, api.ErrTooDeep):
		code = api.ErrTooDeep
	case err != nil:
		code = api.ErrCast
	}
	told(t, x, want, code)
	if t.Failed() {
		t.FailNow()
	}
	return code
}

// P13.2: of a term without Cast and Is kernel tells what static does.
func TestStaticTerms(t *testing.T) {
	g, ended := newGrower(11), map[api.Errno]int{}
	g.Casts = false
	for n := range 4000 {
		x := g.Term(1 + n%6)
		if e := asStatic(t, x); e != api.OK {
			t.Fatal(shortOf(x), e)
		}
		for _, y := range []api.Term{g.Mixed(x), samples.Annotated(x, g.Spoilt), g.Mixed(samples.Annotated(x, g.Spoilt))} {
			if samples.Count(y, api.Cast) == 0 {
				ended[asStatic(t, y)]++
			}
		}
	}
	big, deep := balanced(api.Pair, 1365, integer()), chain(api.Sum, 198, true, boolean())
	for _, text := range []string{`[x, [x, x]]`, `[[x, x], fst 1]`, `[x, [x, [[1, 1], fst 1]]]`, `[[[x, 1], 2], true(1)]`, `x`, `[x, x]`} {
		ended[asStatic(t, held(big, text))]++
		ended[asStatic(t, held(deep, text))]++
	}
	enough(t, ended, 1, api.ErrTooBig, api.ErrTooDeep)
	enough(t, ended, 1000, api.OK, api.ErrCast)
}

// P13.1: of what has neither Cast nor Is, but may have ?, kernel takes no more than check, and at its type.
func TestGradualTerms(t *testing.T) {
	g, ended := newGrower(12), map[api.Errno]int{}
	for n := range 4000 {
		g.Casts = false
		x := g.Term(1 + n%6)
		g.Casts = true
		x = samples.Annotated(x, somewhat(g))
		a, e := kernel.Type(x)
		b, err := check.Type(x)
		if e == api.OK && (err != nil || !types.Same(a, b)) {
			t.Fatal(shortOf(x), short(a), short(b), err)
		}
		ended[e]++
	}
	enough(t, ended, 500, api.OK, api.ErrCast)
}

// relabelled is u with other labels, and at other places.
func relabelled(g *samples.Grower, u api.Term) api.Term {
	u.At = g.Intn(100) - 50
	if u.Kind == api.Cast {
		u.Label = g.Label()
	}
	return samples.Over(u, func(kid api.Term) api.Term { return relabelled(g, kid) })
}

// P13.2: a type does not hang on labels, nor on At.
func TestLabelsAndPlaces(t *testing.T) {
	g, ended := newGrower(13), map[api.Errno]int{}
	for n := range 3000 {
		u := g.Term(1 + n%6)
		for _, v := range []api.Term{u, g.Mixed(u), samples.Annotated(u, somewhat(g))} {
			a, e := kernel.Type(v)
			told(t, relabelled(g, v), a, e)
			ended[e]++
		}
		if t.Failed() {
			t.FailNow()
		}
	}
	enough(t, ended, 1000, api.OK, api.ErrCast)
}

// apart is a type that does not agree with an a that isn't ?.
func apart(g *samples.Grower, a api.Type) api.Type {
	for {
		if b := g.SomeType(3); !agree.Agree(a, b) {
			return b
		}
	}
}

// P13.3: a Cast over a term that is taken, from its type, is taken just if it goes to one that agrees with that, with a Label that chapter 3 lets in.
func TestCastsOverWhatIsTaken(t *testing.T) {
	g, gone, grown := newGrower(14), 0, 0
	for n := range 6000 {
		u := g.Term(1 + n%6)
		a, e := kernel.Type(u)
		if e != api.OK {
			t.Fatal(shortOf(u), e)
		}
		to := samples.One(g, g.Agreeing(a), unknown(), a, g.SomeType(3))
		over := cast(a, to, g.Label(), u)
		switch bound := terms.Check(over); {
		case !agree.Agree(a, to):
			refuses(t, over, api.ErrCast)
		case bound != api.OK:
			grown++
			refuses(t, over, bound)
		default:
			gone++
			takes(t, over, to)
		}
		if a.Kind != api.Unknown {
			refuses(t, cast(a, apart(g, a), g.Label(), u), api.ErrCast)
		}
		over.Label = samples.One(g, 0, 1<<31+1, -1<<31-1)
		refuses(t, over, api.ErrTerm)
		if from := g.Agreeing(a); !types.Same(from, a) {
			refuses(t, cast(from, to, 1, u), api.ErrCast)
		}
		if t.Failed() {
			t.FailNow()
		}
	}
	if gone < 2000 || grown > 0 {
		t.Error(gone, grown)
	}
	big := balanced(api.Pair, 2047, integer()) // 4093 nodes
	x := held(big, `[1, 2]`)
	takes(t, x, of(api.Fun, big, typed("int * int")))
	refuses(t, cast(of(api.Fun, big, typed("int * int")), unknown(), 1, x), api.ErrTooBig)
	deep := chain(api.Fun, 199, true, integer())
	refuses(t, cast(of(api.Fun, deep, integer()), unknown(), 1, held(deep, `1`)), api.ErrTooDeep)
	takes(t, cast(of(api.Fun, deep.Kids[1], integer()), unknown(), 1, held(deep.Kids[1], `1`)), unknown())
}
