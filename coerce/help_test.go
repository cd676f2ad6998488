package coerce_test

import (
	"testing"

	"lychgate/api"
	"lychgate/coerce"
	"lychgate/samples"
	"lychgate/types"
)

// What package samples makes. A text of co tells a coercion as the chapter writes them; a ; b ; c is a and then b ; c.
var (
	of       = samples.Of
	typed    = samples.Type
	chain    = samples.Chain
	balanced = samples.Balanced
	co       = samples.Coercion
	node     = samples.CoNode
	id       = samples.CoId
	in       = samples.CoIn
	out      = samples.CoOut
	fail     = samples.CoFail
	exactly  = samples.CoExactly
	short    = samples.ShortType
)

func unknown() api.Type { return of(api.Unknown) }

func integer() api.Type { return of(api.Int) }

func boolean() api.Type { return of(api.Bool) }

func seq(a, b api.Co) api.Co { return node(api.CoSeq, a, b) }

// bare is a type without anything in it: what is told beside an error.
func bare(a api.Type) bool { return a.Kind == api.Unknown && len(a.Kids) == 0 }

// shortOf is how the text of c begins, or what is wrong with c.
func shortOf(c api.Co) string {
	if _, _, e := coerce.Check(c); e != api.OK {
		return "a coercion with " + e.Error()
	}
	text := coerce.Text(c)
	return text[:min(len(text), 400)]
}

// goes wants Check to tell of c from where to where it goes.
func goes(t *testing.T, c api.Co, from, to api.Type) {
	t.Helper()
	a, b, e := coerce.Check(c)
	if e != api.OK || !types.Same(a, from) || !types.Same(b, to) {
		t.Errorf("%s: from %s to %s, %v; want from %s to %s", shortOf(c), short(a), short(b), e, short(from), short(to))
	}
}

// refuses wants nothing to be told of c but that error.
func refuses(t *testing.T, c api.Co, code api.Errno) {
	t.Helper()
	a, b, e := coerce.Check(c)
	if e != code || !bare(a) || !bare(b) {
		t.Errorf("Check: %s, %s, %v; want %v", short(a), short(b), e, code)
	}
	good := id(integer())
	if coerce.Size(c) != 0 || coerce.Height(c) != 0 || coerce.Text(c) != "" || coerce.Same(c, c) || coerce.Same(c, good) || coerce.Same(good, c) {
		t.Errorf("%v: size %d, height %d, %q, the same: %v", e, coerce.Size(c), coerce.Height(c), coerce.Text(c), coerce.Same(c, c))
	}
}

// makes wants Of to tell just that coercion.
func makes(t *testing.T, from, to api.Type, label int, want api.Co) {
	t.Helper()
	c, e := coerce.Of(from, to, label)
	if e != api.OK || !exactly(c, want) {
		t.Errorf("Of(%s, %s, %d): %s, %v; want %s", short(from), short(to), label, shortOf(c), e, shortOf(want))
	}
}

// makesNone wants Of to tell that error.
func makesNone(t *testing.T, from, to api.Type, label int, code api.Errno) {
	t.Helper()
	if c, e := coerce.Of(from, to, label); e != code || !exactly(c, api.Co{}) {
		t.Errorf("Of(%s, %s, %d): %s, %v; want %v", short(from), short(to), label, shortOf(c), e, code)
	}
}

// measures wants these of c.
func measures(t *testing.T, c api.Co, size, height int) {
	t.Helper()
	if s, h := coerce.Size(c), coerce.Height(c); s != size || h != height {
		t.Errorf("%s: size %d, height %d; want %d, %d", shortOf(c), s, h, size, height)
	}
}

// reads wants c to have that text.
func reads(t *testing.T, c api.Co, want string) {
	t.Helper()
	if text := coerce.Text(c); text != want {
		t.Errorf("%q; want %q", text, want)
	}
}
