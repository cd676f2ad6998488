package casts_test

import (
	"math"
	"math/rand"
	"slices"
	"testing"

	"lychgate/api"
	"lychgate/casts"
	"lychgate/samples"
	"lychgate/types"
)

// What package samples makes. A text of term may have Casts in it: e:A:B is e, from A to B, and its label is one above the place of the second colon.
var (
	of      = samples.Of
	typed   = samples.Type
	chain   = samples.Chain
	node    = samples.Node
	name    = samples.Name
	cast    = samples.Cast
	term    = samples.CastTerm
	allOf   = samples.All
	exactly = samples.Exactly
	short   = samples.ShortType
	shortOf = samples.ShortTerm
)

func unknown() api.Type { return of(api.Unknown) }

func integer() api.Type { return of(api.Int) }

func boolean() api.Type { return of(api.Bool) }

// newGrower makes cast terms, always the same ones.
func newGrower(seed int64) *samples.Grower {
	return &samples.Grower{Dice: rand.New(rand.NewSource(seed)), Casts: true}
}

// castText is a Cast between the types of two texts.
func castText(from, to string, label int, kid api.Term) api.Term {
	return cast(typed(from), typed(to), label, kid)
}

// sameCast tells whether two casts are the same.
func sameCast(a, b api.CastAt) bool {
	return a.Label == b.Label && types.Same(a.From, b.From) && types.Same(a.To, b.To)
}

// lists wants these casts of x.
func lists(t *testing.T, x api.Term, want ...api.CastAt) {
	t.Helper()
	if all := casts.All(x); !slices.EqualFunc(all, want, sameCast) {
		t.Errorf("%s: %v; want %v", shortOf(x), all, want)
	}
}

// labelled wants the casts of x to have these labels.
func labelled(t *testing.T, x api.Term, want ...int) {
	t.Helper()
	var labels []int
	for _, c := range casts.All(x) {
		labels = append(labels, c.Label)
	}
	if !slices.Equal(labels, want) {
		t.Errorf("%s: %v; want %v", shortOf(x), labels, want)
	}
}

// safe wants of x and a label whether it is safe.
func safe(t *testing.T, x api.Term, label int, pos, neg bool) {
	t.Helper()
	if p, n := casts.Safe(x, label); p != pos || n != neg {
		t.Errorf("%s, %d: %v, %v; want %v, %v", shortOf(x), label, p, n, pos, neg)
	}
}

// erases wants x without its casts, exactly.
func erases(t *testing.T, x, want api.Term) {
	t.Helper()
	if y := casts.Erase(x); !exactly(y, want) {
		t.Errorf("%s: %v; want %v", shortOf(x), y, want)
	}
}

// high wants a height of x.
func high(t *testing.T, x api.Term, want int) {
	t.Helper()
	if h := casts.Height(x); h != want {
		t.Errorf("%s: height %d; want %d", shortOf(x), h, want)
	}
}

// tellsNothing wants nothing to be told of an x that is no term.
func tellsNothing(t *testing.T, x api.Term) {
	t.Helper()
	lists(t, x)
	for _, label := range someLabels() {
		safe(t, x, label, false, false)
	}
	erases(t, x, api.Term{})
	high(t, x, 0)
}

// someLabels are labels, and numbers that are none.
func someLabels() []int {
	return []int{0, 1, -1, 2, -2, 3, -3, 7, 9, 1 << 31, -1 << 31, 1<<31 + 1, -1<<31 - 1, math.MaxInt, math.MinInt, math.MinInt + 1}
}
