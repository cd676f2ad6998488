package norm_test

import (
	"testing"

	"lychgate/api"
	"lychgate/coerce"
	"lychgate/norm"
	"lychgate/samples"
)

// What package samples makes. A text of co tells a coercion as chapter 15 writes them; a ; b ; c is a and then b ; c.
var (
	of       = samples.Of
	typed    = samples.Type
	chain    = samples.Chain
	balanced = samples.Balanced
	co       = samples.Coercion
	node     = samples.CoNode
	id       = samples.CoId
	in       = samples.CoIn
	out      = samples.CoOut
	fail     = samples.CoFail
	exactly  = samples.CoExactly
	short    = samples.ShortType
)

func unknown() api.Type { return of(api.Unknown) }

func integer() api.Type { return of(api.Int) }

func boolean() api.Type { return of(api.Bool) }

func seq(a, b api.Co) api.Co { return node(api.CoSeq, a, b) }

// shortOf is how the text of c begins, or what is wrong with c.
func shortOf(c api.Co) string {
	if _, _, e := coerce.Check(c); e != api.OK {
		return "a coercion with " + e.Error()
	}
	text := coerce.Text(c)
	return text[:min(len(text), 400)]
}

// ends is from where to where c goes.
func ends(t *testing.T, c api.Co) (from, to api.Type) {
	t.Helper()
	from, to, e := coerce.Check(c)
	if e != api.OK {
		t.Fatal("the test's own coercion:", e)
	}
	return from, to
}

// made is the normal form of c, which has one.
func made(t *testing.T, c api.Co) api.Co {
	t.Helper()
	n, e := norm.Norm(c)
	if e != api.OK {
		t.Fatalf("Norm(%s): %v", shortOf(c), e)
	}
	return n
}

// merged is a and then b, where that can be told.
func merged(t *testing.T, a, b api.Co) api.Co {
	t.Helper()
	c, e := norm.Then(a, b)
	if e != api.OK {
		t.Fatalf("Then(%s, %s): %v", shortOf(a), shortOf(b), e)
	}
	return c
}

// is wants that of c, and of c with something in what does not count.
func is(t *testing.T, c api.Co, want bool) {
	t.Helper()
	if norm.Is(c) != want || norm.Is(samples.CoLittered(c)) != want {
		t.Errorf("Is(%s): %v; want %v", shortOf(c), norm.Is(c), want)
	}
}

// norms wants just that normal form of c.
func norms(t *testing.T, c, want api.Co) {
	t.Helper()
	for _, c := range []api.Co{c, samples.CoLittered(c)} {
		if n, e := norm.Norm(c); e != api.OK || !exactly(n, want) {
			t.Errorf("Norm(%s): %s, %v; want %s", shortOf(c), shortOf(n), e, shortOf(want))
		}
	}
	if !norm.Is(want) {
		t.Errorf("%s is no normal form", shortOf(want))
	}
}

// normsNone wants Norm to tell that error.
func normsNone(t *testing.T, c api.Co, code api.Errno) {
	t.Helper()
	if n, e := norm.Norm(c); e != code || !exactly(n, api.Co{}) {
		t.Errorf("Norm(%s): %s, %v; want %v", shortOf(c), shortOf(n), e, code)
	}
}

// merges wants just that to be a and then b.
func merges(t *testing.T, a, b, want api.Co) {
	t.Helper()
	for _, b := range []api.Co{b, samples.CoLittered(b)} {
		for _, a := range []api.Co{a, samples.CoLittered(a)} {
			if c, e := norm.Then(a, b); e != api.OK || !exactly(c, want) {
				t.Errorf("Then(%s, %s): %s, %v; want %s", shortOf(a), shortOf(b), shortOf(c), e, shortOf(want))
			}
		}
	}
	if !norm.Is(want) {
		t.Errorf("%s is no normal form", shortOf(want))
	}
}

// mergesNone wants Then to tell that error.
func mergesNone(t *testing.T, a, b api.Co, code api.Errno) {
	t.Helper()
	if c, e := norm.Then(a, b); e != code || !exactly(c, api.Co{}) {
		t.Errorf("Then(%s, %s): %s, %v; want %v", shortOf(a), shortOf(b), shortOf(c), e, code)
	}
}
