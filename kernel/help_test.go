package kernel_test

import (
	"math/rand"
	"testing"

	"lychgate/api"
	"lychgate/kernel"
	"lychgate/samples"
	"lychgate/types"
)

// What package samples makes. A text of term may have Casts in it: e:A:B is e, from A to B.
var (
	of       = samples.Of
	typed    = samples.Type
	chain    = samples.Chain
	balanced = samples.Balanced
	node     = samples.Node
	name     = samples.Name
	cast     = samples.Cast
	term     = samples.CastTerm
	short    = samples.ShortType
	shortOf  = samples.ShortTerm
)

func unknown() api.Type { return of(api.Unknown) }

func integer() api.Type { return of(api.Int) }

func boolean() api.Type { return of(api.Bool) }

// newGrower makes cast terms, always the same ones.
func newGrower(seed int64) *samples.Grower {
	return &samples.Grower{Dice: rand.New(rand.NewSource(seed)), Casts: true}
}

// told wants kernel to tell a type of x, or an error, and then nothing beside it.
func told(t *testing.T, x api.Term, want api.Type, code api.Errno) {
	t.Helper()
	a, e := kernel.Type(x)
	if e != code || !types.Same(a, want) {
		t.Errorf("%s: %s, %v; want %s, %v", shortOf(x), short(a), e, short(want), code)
	}
}

// takes wants x to have that type, refuses wants it to have none.
func takes(t *testing.T, x api.Term, want api.Type) {
	t.Helper()
	told(t, x, want, api.OK)
}

func refuses(t *testing.T, x api.Term, code api.Errno) {
	t.Helper()
	told(t, x, api.Type{}, code)
}

func takesText(t *testing.T, text, want string) {
	t.Helper()
	takes(t, term(text), typed(want))
}

func refusesText(t *testing.T, text string, code api.Errno) {
	t.Helper()
	refuses(t, term(text), code)
}
