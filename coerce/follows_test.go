package coerce_test

import (
	"testing"

	"lychgate/api"
	"lychgate/coerce"
	"lychgate/samples"
	"lychgate/types"
)

// turned is c with all sides changed.
func turned(c api.Co) api.Co {
	if c.Kind == api.CoFail || c.Kind == api.CoOut {
		c.Neg = !c.Neg
	}
	return samples.CoOver(c, turned)
}

// follows wants of two types of which Of is OK what P15.6 and P15.7 tell. It leaves the test at the first fault: the next ones would tell the same.
func follows(t *testing.T, from, to api.Type, label int) {
	t.Helper()
	c, e := coerce.Of(from, to, label)
	if e != api.OK {
		t.Fatal("the test's own types:", short(from), short(to), e)
	}
	goes(t, c, from, to)
	if height := coerce.Height(c); height > max(types.Depth(from), types.Depth(to)) {
		t.Errorf("%s: height %d", shortOf(c), height)
	}
	for _, piece := range samples.CoAll(c) {
		if piece.Label != 0 && piece.Label != max(label, -label) {
			t.Errorf("%s, of %d: a label %d", shortOf(c), label, piece.Label)
		}
	}
	makes(t, from, to, -label, turned(c))
	for _, a := range []api.Type{from, to} {
		itself, e := coerce.Of(a, a, label)
		if e != api.OK {
			continue // too great, where what is between from and to is not
		}
		for _, piece := range samples.CoAll(itself) {
			if piece.Kind == api.CoIn || piece.Kind == api.CoOut || piece.Kind == api.CoFail {
				t.Errorf("Of(%s, %s): %s", short(a), short(a), shortOf(itself))
			}
		}
	}
	if t.Failed() {
		t.FailNow()
	}
}

// P15.6 and P15.7.
func TestWhatFollows(t *testing.T) {
	g, highest := newGrower(3), 0
	for i := range 20000 {
		a := g.SomeType(1 + i%7)
		b := g.Agreeing(a)
		follows(t, a, b, g.Label())
		follows(t, b, a, g.Label())
		c, _ := coerce.Of(a, b, 1)
		if coerce.Height(c) == max(types.Depth(a), types.Depth(b)) {
			highest++
		}
	}
	if highest < 5000 {
		t.Errorf("only %d are as high as their types", highest)
	}
	for _, kind := range []int8{api.Fun, api.Pair, api.Sum} {
		for _, right := range []bool{true, false} {
			deep := chain(kind, 99, right, integer())
			follows(t, deep, unknown(), 1<<31)
			follows(t, unknown(), deep, -1<<31)
			follows(t, chain(kind, 199, right, unknown()), chain(kind, 199, right, unknown()), 1)
		}
		great := balanced(kind, 745, integer())
		follows(t, great, unknown(), -1)
		follows(t, unknown(), great, 1)
	}
}

// P15.6: grounds, and what is unknown, are no higher than what is made between them.
func TestHeightsOfGrounds(t *testing.T) {
	for text, want := range map[string]int{"int": 1, "bool": 1, "? -> ?": 2, "? * ?": 2, "? + ?": 2, "int -> bool": 2, "? * (? + ?)": 3} {
		for _, x := range [][2]api.Type{{typed(text), unknown()}, {unknown(), typed(text)}, {typed(text), typed(text)}} {
			c, _ := coerce.Of(x[0], x[1], 1)
			if height := coerce.Height(c); height != want {
				t.Errorf("%s: height %d; want %d", shortOf(c), height, want)
			}
		}
	}
}
