package norm_test

import (
	"testing"

	"lychgate/api"
	"lychgate/coerce"
	"lychgate/norm"
	"lychgate/samples"
	"lychgate/types"
)

// keeps wants c to be in normal form, to go from there to there, and to be its own normal form; and not to be too great for its height.
func keeps(t *testing.T, c api.Co, from, to api.Type) {
	t.Helper()
	a, b := ends(t, c)
	if !norm.Is(c) || !types.Same(a, from) || !types.Same(b, to) {
		t.Errorf("%s: Is %v, from %s to %s; want from %s to %s", shortOf(c), norm.Is(c), short(a), short(b), short(from), short(to))
	}
	norms(t, c, c)
	if height := coerce.Height(c); height < 20 && coerce.Size(c) > 4<<height {
		t.Errorf("%s: height %d, size %d", shortOf(c), height, coerce.Size(c))
	}
}

// labels are those in c, with their sides.
func labels(c api.Co) map[int]int {
	all := map[int]int{}
	for _, piece := range samples.CoAll(c) {
		if piece.Label != 0 {
			all[sided(piece)]++
		}
	}
	return all
}

// follows wants of three in normal form, each of which goes from where the one ahead goes to, what P16.5 to P16.8 tell. It leaves the test at the first fault: the next ones would tell the same.
func follows(t *testing.T, a, b, c api.Co) {
	t.Helper()
	from, _ := ends(t, a)
	_, middle := ends(t, b)
	_, to := ends(t, c)
	ab, e := norm.Then(a, b)
	bc, f := norm.Then(b, c)
	if e != api.OK || f != api.OK {
		return // too great
	}
	keeps(t, ab, from, middle)
	if height := coerce.Height(ab); height > max(coerce.Height(a), coerce.Height(b)) {
		t.Errorf("%s: height %d", shortOf(ab), height)
	}
	own := labels(seq(a, b))
	for p := range labels(ab) {
		if own[p] == 0 {
			t.Errorf("%s: a label %d", shortOf(ab), p)
		}
	}
	whole, e := norm.Then(ab, c)
	again, f := norm.Then(a, bc)
	if e != f || !exactly(whole, again) {
		t.Errorf("%s; %s; %s: %s, %v; %s, %v", shortOf(a), shortOf(b), shortOf(c), shortOf(whole), e, shortOf(again), f)
	}
	if e == api.OK {
		keeps(t, whole, from, to)
	}
	for _, x := range []api.Type{from, middle} {
		if _, e := norm.Norm(id(x)); e != api.OK {
			return // too great
		}
	}
	merges(t, made(t, id(from)), ab, ab)
	merges(t, ab, made(t, id(middle)), ab)
	if t.Failed() {
		t.FailNow()
	}
}

// P16.5 to P16.8: all of the smallest ones.
func TestSmallRows(t *testing.T) {
	from := map[int8][]api.Co{}
	for _, c := range samples.SmallForms() {
		a, _ := ends(t, c)
		from[a.Kind] = append(from[a.Kind], c)
	}
	rows := 0
	for _, a := range samples.SmallForms() {
		_, to := ends(t, a)
		for _, b := range from[to.Kind] {
			_, to := ends(t, b)
			for _, c := range from[to.Kind] {
				follows(t, a, b, c)
				rows++
			}
		}
	}
	if rows < 10000 {
		t.Error(rows)
	}
}

// P16.5 to P16.8: made-up ones, between types that agree, and others; what casts make.
func TestManyRows(t *testing.T) {
	g := newGrower(4)
	for i := range 6000 {
		var row [4]api.Type
		row[0] = g.SomeType(4)
		for n := range 3 {
			row[n+1] = samples.One(g, unknown(), g.Agreeing(row[n]), g.Agreeing(row[n]), g.SomeType(3), row[n])
		}
		follows(t, g.Form(row[0], row[1], i%4), g.Form(row[1], row[2], i/4%4), g.Form(row[2], row[3], i/16%4))
		var casts [3]api.Co
		a := row[0]
		for n := range casts {
			b := samples.One(g, unknown(), g.Agreeing(a))
			casts[n], _ = norm.Cast(a, b, g.Label())
			a = b
		}
		follows(t, casts[0], casts[1], casts[2])
	}
}

// P16.5: what Norm tells goes as what it was handed.
func TestNormKeepsEnds(t *testing.T) {
	g := newGrower(5)
	for i := range 6000 {
		from, to := g.SomeType(3), g.SomeType(3)
		keeps(t, made(t, g.Coercion(from, to, i%6)), from, to)
		if t.Failed() {
			t.FailNow()
		}
	}
}

// P16.6: casts are no higher than the types between which they go.
func TestHeightsOfCasts(t *testing.T) {
	g, highest := newGrower(6), 0
	for i := range 12000 {
		a := g.SomeType(1 + i%7)
		b := g.Agreeing(a)
		c, e := norm.Cast(a, b, g.Label())
		high := max(types.Depth(a), types.Depth(b))
		if e != api.OK || coerce.Height(c) > high {
			t.Fatalf("Cast(%s, %s): %s, %v", short(a), short(b), shortOf(c), e)
		}
		if coerce.Height(c) == high {
			highest++
		}
	}
	if highest < 3000 {
		t.Errorf("only %d are as high as their types", highest)
	}
}

// P16.7: the greatest of their heights.
func TestGreatest(t *testing.T) {
	c := co("{ int } ? 1 ; id { int } ; { int } !")
	for height := 1; height < 10; height++ {
		keeps(t, c, unknown(), unknown())
		if coerce.Height(c) != height || coerce.Size(c) != 3<<height-3 {
			t.Errorf("height %d, size %d", coerce.Height(c), coerce.Size(c))
		}
		c = seq(out(typed("? + ?"), 1), seq(node(api.CoSum, c, c), in(typed("? + ?"))))
	}
}

// P16.9: into what is unknown, and out of it again, as something else.
func TestCastsThatFail(t *testing.T) {
	all := []string{"int", "bool", "? -> ?", "int -> ?", "bool -> bool", "? * ?", "int * bool", "(? -> ?) * int", "? + ?", "bool + ?", "(int * int) + bool"}
	for _, a := range all {
		for _, b := range all {
			for _, q := range []int{1, -1, 7, 1 << 31, -1 << 31} {
				into, e := norm.Cast(typed(a), unknown(), 9)
				from, f := norm.Cast(unknown(), typed(b), q)
				if e != api.OK || f != api.OK {
					t.Fatal(a, b, e, f)
				}
				c := merged(t, into, from)
				if typed(a).Kind != typed(b).Kind {
					merges(t, into, from, fail(typed(a), typed(b), q))
				} else if c.Kind == api.CoFail {
					t.Errorf("%s, %s: %s", a, b, shortOf(c))
				}
			}
		}
	}
	g := newGrower(7)
	for i := range 6000 {
		from, middle, to := g.SomeType(3), g.SomeType(3), g.SomeType(3)
		if from.Kind != api.Unknown {
			p := g.Label()
			merges(t, fail(from, middle, p), g.Form(middle, to, i%4), fail(from, to, p))
		}
	}
}
