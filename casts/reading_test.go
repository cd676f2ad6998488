package casts_test

import (
	"slices"
	"testing"

	"lychgate/api"
	"lychgate/below"
	"lychgate/casts"
	"lychgate/insert"
	"lychgate/parse"
	"lychgate/samples"
	"lychgate/terms"
	"lychgate/types"
)

// The promises, written down a second time: over a row of all terms of a term, each without its kids. Such a row tells the term, as each kind has its number of kids.

func row(x api.Term) []api.Term {
	all := allOf(x)
	for n := range all {
		all[n].Kids = nil
	}
	return all
}

// castsOf are the casts of a row.
func castsOf(row []api.Term) []api.CastAt {
	var all []api.CastAt
	for _, u := range row {
		if u.Kind == api.Cast {
			all = append(all, api.CastAt{From: u.Type, To: u.To, Label: u.Label})
		}
	}
	return all
}

// rowWithout is what is left of a term's row without its casts and all that does not count but At.
func rowWithout(x api.Term) []api.Term {
	var left []api.Term
	places := row(x)
	for n, u := range row(terms.Bare(x)) {
		if u.Kind != api.Cast {
			u.At = places[n].At
			left = append(left, u)
		}
	}
	return left
}

// A blamed is a label above 0, and one of its sides.
type blamed struct {
	label int
	neg   bool
}

// blame is what is blamed where p is to blame, or its other side.
func blame(p int, other bool) blamed {
	if p < 0 {
		return blamed{-p, !other}
	}
	return blamed{p, other}
}

// mayBlame are those that these casts may blame.
func mayBlame(all []api.CastAt) map[blamed]bool {
	may := map[blamed]bool{}
	for _, c := range all {
		if !below.Pos(c.From, c.To) {
			may[blame(c.Label, false)] = true
		}
		if !below.Neg(c.From, c.To) {
			may[blame(c.Label, true)] = true
		}
	}
	return may
}

// heightOf is that of the highest type of x.
func heightOf(x api.Term) int {
	highest := 0
	samples.Annotated(x, func(a api.Type) api.Type {
		highest = max(highest, types.Depth(a))
		return a
	})
	return highest
}

// asRead wants of x what the promises tell, written down a second time. It leaves the test at the first fault: the next ones would tell the same.
func asRead(t *testing.T, x api.Term) {
	t.Helper()
	defer func() {
		t.Helper()
		if t.Failed() {
			t.FailNow()
		}
	}()
	if terms.Check(x) != api.OK {
		tellsNothing(t, x)
		return
	}
	all := castsOf(row(x))
	lists(t, x, all...)
	may := mayBlame(all)
	labels := someLabels()
	for _, c := range all {
		labels = append(labels, c.Label, -c.Label)
	}
	for _, label := range labels {
		safe(t, x, label, !may[blame(label, false)], !may[blame(label, true)])
	}
	erased := casts.Erase(x)
	if e := terms.Check(erased); e != api.OK || !slices.EqualFunc(row(erased), rowWithout(x), exactly) {
		t.Errorf("%s without casts: %v, %v", shortOf(x), erased, e)
	}
	high(t, x, heightOf(x))
}

// P14.1 to P14.3: each kind of term, in each kind, with casts over each of its kids, or over some.
func TestEveryKindInEveryKind(t *testing.T) {
	g := newGrower(1)
	somewhere := func(x api.Term) api.Term {
		x.At = g.Intn(100)
		if g.Intn(2) == 0 {
			return x
		}
		return cast(g.SomeType(3), g.SomeType(3), g.Label(), x)
	}
	for _, inner := range samples.EveryKind() {
		for _, x := range samples.Around(inner) {
			for range 20 {
				asRead(t, samples.Over(samples.Annotated(x, func(api.Type) api.Type { return g.SomeType(4) }), somewhere))
			}
		}
	}
}

// P14.1 to P14.3: made-up cast terms, as they are, mixed up, with what does not count, and with what is no term in them.
func TestManyTerms(t *testing.T) {
	g, count, none := newGrower(2), 0, 0
	for n := range 4000 {
		x := g.Term(1 + n%6)
		y := g.Mixed(samples.Annotated(x, g.Spoilt))
		for _, u := range []api.Term{x, y, samples.Littered(x), samples.Littered(y), marred(g, y)} {
			asRead(t, u)
			count += len(casts.All(u))
			if terms.Check(u) != api.OK {
				none++
			}
		}
	}
	if count < 40000 || none < 1000 {
		t.Errorf("only %d casts, only %d that are no terms", count, none)
	}
}

// marred is x, now and then with what is no term in it.
func marred(g *samples.Grower, x api.Term) api.Term {
	if g.Intn(20) == 0 {
		a := g.SomeType(2)
		return samples.One(g, api.Term{}, cast(a, a, 0, x), cast(a, of(api.Fun, a), 1, x), node(api.Fst, x, x))
	}
	return samples.Over(x, func(kid api.Term) api.Term { return marred(g, kid) })
}

// P14.1 to P14.3: what may come out of a text, as the text's term is, with a Cast for each two Is, and with casts put in.
func FuzzText(f *testing.F) {
	for _, text := range []string{`(\x:?.x+1)(2)`, `1:int:?:?:bool`, `inl{?}true`, `if true then 1 else (2:?)`, `case inl{int+?}1:int+?:?+? of x.x:?:int | y.2`, `rec f(x:int->?):?.f(\y:?.x(y):?:int)`, `let f:int->int=\x:?.x in f(2)`, `[1:int:?, fst [x:?:int*?, snd y]]`, `1:`} {
		f.Add(text)
	}
	f.Fuzz(func(t *testing.T, text string) {
		x, err := parse.Term(text)
		if err != nil {
			return
		}
		asRead(t, x)
		asRead(t, samples.Casting(x))
		if u, _, err := insert.Term(x); err == nil {
			asRead(t, u)
		}
	})
}
