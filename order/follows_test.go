package order_test

import (
	"math/rand"
	"slices"
	"strconv"
	"testing"

	"lychgate/agree"
	"lychgate/api"
	"lychgate/order"
	"lychgate/terms"
	"lychgate/types"
)

func one[T any](random *rand.Rand, of ...T) T { return of[random.Intn(len(of))] }

func someType(random *rand.Rand, depth int) api.Type {
	kind := int8(random.Intn(8))
	if depth == 1 || kind > api.Sum {
		kind %= 3
	}
	if kind <= api.Bool {
		return of(kind)
	}
	return of(kind, someType(random, depth-1), someType(random, depth-1))
}

// opened is a with some parts made unknown.
func opened(random *rand.Rand, a api.Type) api.Type {
	if random.Intn(6) == 0 {
		return unknown()
	}
	return spread(a, func(kid api.Type) api.Type { return opened(random, kid) })
}

// spoilt is a with some parts made unknown, and some changed.
func spoilt(random *rand.Rand, a api.Type) api.Type {
	switch random.Intn(16) {
	case 0:
		return someType(random, 2)
	case 1, 2:
		return unknown()
	}
	return spread(a, func(kid api.Type) api.Type { return spoilt(random, kid) })
}

// spread is a with each of its parts changed.
func spread(a api.Type, change func(api.Type) api.Type) api.Type {
	b := of(a.Kind)
	for _, kid := range a.Kids {
		b.Kids = append(b.Kids, change(kid))
	}
	return b
}

// The rules written down a second time: a type as what stands at each place in it, a place being the way there.

func laid(a api.Type, place string, on map[string]int8) map[string]int8 {
	on[place] = a.Kind
	for n, kid := range a.Kids {
		laid(kid, place+strconv.Itoa(n), on)
	}
	return on
}

func layout(a api.Type) map[string]int8 { return laid(a, "", map[string]int8{}) }

// ruledLess: what is known at a place of a is known there of b.
func ruledLess(a, b map[string]int8) bool {
	for place, kind := range a {
		if kind != api.Unknown && b[place] != kind {
			return false
		}
	}
	return true
}

// ruledMeet is what is known at the places of either; false, if something else is known of a place by the one than by the other.
func ruledMeet(a, b map[string]int8) (map[string]int8, bool) {
	m := map[string]int8{}
	for _, x := range []map[string]int8{a, b} {
		for place, kind := range x {
			if kind != api.Unknown && m[place] != api.Unknown && m[place] != kind {
				return nil, false
			}
			m[place] = max(m[place], kind)
		}
	}
	return m, true
}

// asRuled wants of two types what the second writing of the rules tells of them.
func asRuled(t *testing.T, a, b api.Type) (isLess, meet bool) {
	t.Helper()
	x, y := layout(a), layout(b)
	isLess = ruledLess(x, y)
	less(t, a, b, isLess)
	want, meet := ruledMeet(x, y)
	m, ok := order.Meet(a, b)
	if ok != meet || ok && !sameLayout(layout(m), want) || !ok && (m.Kind != 0 || len(m.Kids) != 0) {
		t.Errorf("Meet(%s, %s) = %s, %v; want %v", short(a), short(b), short(m), ok, want)
	}
	return isLess, meet
}

func sameLayout(a, b map[string]int8) bool {
	return len(a) == len(b) && ruledLess(a, b) && ruledLess(b, a)
}

// P7.1 and P7.2.
func TestTypesAgainstASecondRule(t *testing.T) {
	random, small, all := rand.New(rand.NewSource(1)), everyType(2), everyType(3)
	lesses, meeting, tried := 0, 0, 0
	try := func(a, b api.Type) {
		isLess, meet := asRuled(t, a, b)
		if t.Failed() {
			t.FailNow() // one is enough: the next ones would tell the same
		}
		tried++
		if isLess {
			lesses++
		}
		if meet {
			meeting++
		}
	}
	for _, a := range all {
		for _, b := range small {
			try(a, b)
			try(b, a)
		}
	}
	for range 20000 {
		a := someType(random, 7)
		try(spoilt(random, a), spoilt(random, a))
		try(opened(random, a), a)
		try(opened(random, a), opened(random, a))
	}
	if lesses < 20000 || meeting < 20000 || tried-lesses < 20000 || tried-meeting < 20000 {
		t.Errorf("too few of a sort: %d less, %d that meet, of %d", lesses, meeting, tried)
	}
}

// P7.4: this test and those behind it, up to that of Agree.
func TestLessIsAnOrder(t *testing.T) {
	small := everyType(2)
	for _, a := range everyType(3) {
		less(t, a, a, true)
		less(t, unknown(), a, true)
		for _, b := range small {
			if both := order.Less(a, b) && order.Less(b, a); both != types.Same(a, b) {
				t.Errorf("%s and %s: Less both ways is %v", short(a), short(b), both)
			}
		}
	}
	for _, a := range small {
		for _, b := range small {
			for _, c := range small {
				if order.Less(a, b) && order.Less(b, c) {
					less(t, a, c, true)
				}
			}
		}
	}
}

func TestLessGoesOn(t *testing.T) {
	random := rand.New(rand.NewSource(2))
	for range 20000 {
		c := someType(random, 7)
		b := opened(random, c)
		a := opened(random, b)
		less(t, a, b, true)
		less(t, b, c, true)
		less(t, a, c, true)
		less(t, c, a, types.Same(a, c))
	}
}

// leastOfAll wants Meet of a and b to be the least precise of all types above both: there is one just if they agree.
func leastOfAll(t *testing.T, a, b api.Type, all []api.Type) {
	t.Helper()
	m, ok := order.Meet(a, b)
	if ok != agree.Agree(a, b) {
		t.Fatalf("Meet(%s, %s): %v", short(a), short(b), ok)
	}
	if ok {
		less(t, a, m, true)
		less(t, b, m, true)
	}
	above := 0
	for _, c := range all {
		if order.Less(a, c) && order.Less(b, c) {
			above++
			less(t, m, c, ok)
		}
	}
	if ok != (above > 0) {
		t.Fatalf("%s and %s: %d types are above both", short(a), short(b), above)
	}
}

func TestMeetIsTheLeastPrecise(t *testing.T) {
	small, all, random := everyType(2), everyType(3), rand.New(rand.NewSource(3))
	for _, a := range small {
		for _, b := range small {
			leastOfAll(t, a, b, small)
		}
	}
	for range 300 {
		c := one(random, all...)
		leastOfAll(t, opened(random, c), opened(random, c), all)
		leastOfAll(t, one(random, all...), one(random, all...), all)
	}
	for range 10000 {
		c := someType(random, 7)
		a, b := opened(random, c), opened(random, c)
		leastOfAll(t, a, b, []api.Type{c})
	}
}

// P7.5.
func TestMeetBothWays(t *testing.T) {
	small := everyType(2)
	for _, a := range everyType(3) {
		meets(t, a, a, a)
		for _, b := range small {
			if m, ok := order.Meet(a, b); ok {
				meets(t, b, a, m)
			} else {
				meetNot(t, b, a)
			}
		}
	}
}

// P7.5.
func TestMeetRises(t *testing.T) {
	random, strictly := rand.New(rand.NewSource(4)), 0
	for range 20000 {
		c := someType(random, 7)
		more, moreToo := opened(random, c), opened(random, c)
		a, b := opened(random, more), opened(random, moreToo)
		m, ok := order.Meet(a, b)
		above, okAbove := order.Meet(more, moreToo)
		if !ok || !okAbove || !agree.Agree(a, b) || !order.Less(m, above) {
			t.Fatalf("Meet(%s, %s) = %s, %v; Meet(%s, %s) = %s, %v", short(a), short(b), short(m), ok, short(more), short(moreToo), short(above), okAbove)
		}
		if !types.Same(m, above) {
			strictly++
		}
	}
	if strictly < 3000 {
		t.Errorf("only %d", strictly)
	}
}

// sorts are how many kids the terms of each kind have, and which of their types count.
var sorts = [...]struct {
	kids      int
	typed, to bool
}{
	api.Lam: {1, true, false}, api.Rec: {1, true, true}, api.App: {kids: 2}, api.Let: {2, true, false}, api.If: {kids: 3}, api.Two: {kids: 2},
	api.Fst: {kids: 1}, api.Snd: {kids: 1}, api.Inl: {1, true, false}, api.Inr: {1, true, false}, api.Case: {kids: 3}, api.Op: {kids: 2}, api.Is: {1, true, false},
}

// someTerm is a term of any kind but Cast, up to a depth.
func someTerm(random *rand.Rand, depth int) api.Term {
	kind := random.Intn(len(sorts))
	for depth == 1 && sorts[kind].kids > 0 {
		kind = random.Intn(len(sorts))
	}
	x := api.Term{
		Kind: int8(kind), Name: one(random, "x", "y"), Arg: one(random, "x", "y"), Num: int64(random.Intn(3)),
		Type: someType(random, 3), To: someType(random, 3), Label: random.Intn(3), At: random.Intn(9),
	}
	if kind == api.Op {
		x.Name = one(random, "+", "-", "*", "/", "<", "=")
	}
	for range sorts[kind].kids {
		x.Kids = append(x.Kids, someTerm(random, depth-1))
	}
	return x
}

// changed is x with each of its annotations changed, and what does not count as it comes.
func changed(random *rand.Rand, x api.Term, change func(*rand.Rand, api.Type) api.Type) api.Term {
	y := x
	y.At, y.Label = random.Intn(9), random.Intn(3)
	y.Type, y.To = change(random, x.Type), change(random, x.To)
	y.Kids = nil
	for _, kid := range x.Kids {
		y.Kids = append(y.Kids, changed(random, kid, change))
	}
	return y
}

// annotations are those of x, and behind them those of its kids.
func annotations(x api.Term) []api.Type {
	var all []api.Type
	if sorts[x.Kind].typed {
		all = append(all, x.Type)
	}
	if sorts[x.Kind].to {
		all = append(all, x.To)
	}
	for _, kid := range x.Kids {
		all = append(all, annotations(kid)...)
	}
	return all
}

// opens is x without anything known in its annotations.
func opens(x api.Term) api.Term {
	x = terms.Bare(x)
	x.Type, x.To = unknown(), unknown()
	for n := range x.Kids {
		x.Kids[n] = opens(x.Kids[n])
	}
	return x
}

// ruledTerms is P7.3, written down a second time.
func ruledTerms(a, b api.Term) bool {
	return terms.Same(opens(a), opens(b)) && slices.EqualFunc(annotations(a), annotations(b), order.Less)
}

// P7.3 and P7.6: made-up terms with annotations opened, once and once more, and spoilt.
func TestManyTerms(t *testing.T) {
	random := rand.New(rand.NewSource(5))
	told := map[bool]int{}
	try := func(a, b api.Term) {
		want := ruledTerms(a, b)
		lessTerms(t, a, b, want)
		told[want]++
		if both := order.Terms(a, b) && order.Terms(b, a); both != terms.Same(a, b) {
			t.Errorf("%s and %s: both ways is %v", shortTerm(a), shortTerm(b), both)
		}
		if t.Failed() {
			t.FailNow() // one is enough: the next ones would tell the same
		}
	}
	before := term(`x`)
	for n := range 5000 {
		c := someTerm(random, 1+n%6)
		b := changed(random, c, opened)
		a := changed(random, b, opened)
		lessTerms(t, c, c, true)
		lessTerms(t, a, b, true)
		lessTerms(t, b, c, true)
		lessTerms(t, a, c, true)
		lessTerms(t, opens(c), c, true)
		try(c, a)
		try(b, a)
		try(changed(random, c, opened), b)
		try(changed(random, c, spoilt), changed(random, c, spoilt))
		try(c, before)
		before = c
	}
	if told[true] < 3000 || told[false] < 3000 {
		t.Errorf("too few of a sort: %v", told)
	}
}

// P7.6: few terms, all of them with all, so that Terms goes on wherever it may.
func TestTermsIsAnOrder(t *testing.T) {
	var all []api.Term
	for _, a := range []string{"?", "int", "? -> ?", "int -> ?", "? -> int", "int -> int", "? * ?"} {
		for _, b := range []string{"?", "bool", "bool + ?"} {
			all = append(all, filled(`rec f(x:A):B.x`, a, b), filled(`\x:A.x:B`, a, b))
		}
	}
	goes := 0
	for _, a := range all {
		for _, b := range all {
			for _, c := range all {
				if order.Terms(a, b) && order.Terms(b, c) {
					goes++
					lessTerms(t, a, c, true)
				}
			}
			if both := order.Terms(a, b) && order.Terms(b, a); both != terms.Same(a, b) {
				t.Errorf("%s and %s: both ways is %v", shortTerm(a), shortTerm(b), both)
			}
		}
	}
	if goes < 500 {
		t.Errorf("only %d", goes)
	}
}
