package below_test

import (
	"math/rand"
	"strconv"
	"testing"

	"lychgate/api"
	"lychgate/below"
	"lychgate/order"
	"lychgate/types"
)

// The rules written down a second time: two types place by place, a place being the way there. What is asked at a place hangs on nothing but the two kinds there, on how often the sides have changed on the way, and on whether there is anything known ahead of an arrow.

// A spot is what stands at a place of a type.
type spot struct {
	kind   int8
	turned bool // behind an odd number of functions' arguments
	free   bool // of known arguments
}

func laid(a api.Type, place string, turned bool, on map[string]spot) map[string]spot {
	on[place] = spot{a.Kind, turned, argumentsOpen(a)}
	for n, kid := range a.Kids {
		laid(kid, place+strconv.Itoa(n), turned != (a.Kind == api.Fun && n == 0), on)
	}
	return on
}

func argumentsOpen(a api.Type) bool {
	if a.Kind == api.Fun && a.Kids[0].Kind != api.Unknown {
		return false
	}
	for _, kid := range a.Kids {
		if !argumentsOpen(kid) {
			return false
		}
	}
	return true
}

func ruled(a, b api.Type) answer {
	on, l := laid(b, "", false, map[string]spot{}), all
	for place, from := range laid(a, "", false, map[string]spot{}) {
		if to, both := on[place]; both {
			here := at(from, to)
			l = answer{l[0] && here[0], l[1] && here[1], l[2] && here[2]}
		}
	}
	return l
}

// at is what two spots of one place let through.
func at(from, to spot) answer {
	if from.turned {
		from, to = to, from
	}
	side, other := positive, negative
	if from.turned {
		side, other = negative, positive
	}
	switch {
	case from.kind == to.kind, to.kind == api.Unknown && from.free:
		return all
	case to.kind == api.Unknown:
		return side
	case from.kind == api.Unknown:
		return other
	}
	return none
}

// holds wants of two types, either way, what the second writing of the rules tells of them, and what follows from it: P8.2 and P8.3. It leaves the test at the first fault: the next ones would tell the same.
func holds(t *testing.T, a, b api.Type, told map[answer]int) {
	t.Helper()
	there, back := asked(a, b), asked(b, a)
	told[there]++
	told[back]++
	if want, wantBack := ruled(a, b), ruled(b, a); there != want || back != wantBack {
		t.Fatalf("%s and %s: %v, and back %v; want %v, %v", short(a), short(b), there, back, want, wantBack)
	}
	if there[0] != (there[1] && there[2]) || back[0] != (back[1] && back[2]) {
		t.Fatalf("%s and %s: %v, and back %v", short(a), short(b), there, back)
	}
	if order.Less(b, a) != (there[1] && back[2]) || order.Less(a, b) != (back[1] && there[2]) {
		t.Fatalf("%s and %s: %v, and back %v; but Less tells %v, and back %v", short(a), short(b), there, back, order.Less(a, b), order.Less(b, a))
	}
}

// enough wants many of each answer.
func enough(t *testing.T, told map[answer]int, many int) {
	t.Helper()
	for _, x := range []answer{all, positive, negative, none} {
		if told[x] < many {
			t.Errorf("too few of a sort: %v", told)
		}
	}
}

// P8.1 to P8.3: all types three deep with all two deep.
func TestEveryType(t *testing.T) {
	small, told := everyType(2), map[answer]int{}
	for _, a := range everyType(3) {
		for _, b := range small {
			holds(t, a, b, told)
		}
	}
	enough(t, told, 2500)
}

// P8.1 to P8.3.
func TestManyTypes(t *testing.T) {
	random, deep, told := rand.New(rand.NewSource(1)), everyType(3), map[answer]int{}
	for range 100000 {
		holds(t, deep[random.Intn(len(deep))], deep[random.Intn(len(deep))], told)
	}
	for range 20000 {
		a := someType(random, 7)
		holds(t, near(random, a), near(random, a), told)
		holds(t, a, raised(random, a), told)
		holds(t, a, lowered(random, a), told)
	}
	enough(t, told, 2000)
}

// P8.3: of types that are none, none is less.
func TestWhatIsNoTypeIsNotLess(t *testing.T) {
	for _, a := range noTypes() {
		for _, b := range []api.Type{a, unknown(), integer()} {
			if order.Less(a, b) || order.Less(b, a) {
				t.Errorf("%s and %s are none", short(a), short(b))
			}
			tells(t, a, b, none)
			tells(t, b, a, none)
		}
	}
}

// raised is a type that a is below, made of it by the rules; lowered is one that is below a.

func raised(random *rand.Rand, a api.Type) api.Type {
	if random.Intn(5) == 0 && argumentsOpen(a) {
		return unknown()
	}
	return spread(a, func(n int, kid api.Type) api.Type {
		if a.Kind == api.Fun && n == 0 {
			return lowered(random, kid)
		}
		return raised(random, kid)
	})
}

func lowered(random *rand.Rand, a api.Type) api.Type {
	if a.Kind == api.Unknown && random.Intn(2) == 0 {
		return emptied(someType(random, 3))
	}
	return spread(a, func(n int, kid api.Type) api.Type {
		if a.Kind == api.Fun && n == 0 {
			return raised(random, kid)
		}
		return lowered(random, kid)
	})
}

// emptied is a with nothing known ahead of its arrows.
func emptied(a api.Type) api.Type {
	return spread(a, func(n int, kid api.Type) api.Type {
		if a.Kind == api.Fun && n == 0 {
			return unknown()
		}
		return emptied(kid)
	})
}

// P8.4: this test and those behind it, up to that of the two that do not go on.
func TestEveryTypeIsBelowItself(t *testing.T) {
	for _, a := range everyType(3) {
		tells(t, a, a, all)
	}
	random := rand.New(rand.NewSource(2))
	for range 5000 {
		a := someType(random, 8)
		tells(t, a, a, all)
	}
}

func TestBelowBothWaysIsSame(t *testing.T) {
	small := everyType(2)
	for _, a := range everyType(3) {
		for _, b := range small {
			if both := below.Below(a, b) && below.Below(b, a); both != types.Same(a, b) {
				t.Fatalf("%s and %s: both ways is %v", short(a), short(b), both)
			}
		}
	}
	random := rand.New(rand.NewSource(3))
	for range 20000 {
		a := someType(random, 6)
		b := raised(random, a)
		if both := below.Below(a, b) && below.Below(b, a); both != types.Same(a, b) {
			t.Fatalf("%s and %s: both ways is %v", short(a), short(b), both)
		}
	}
}

func TestBelowGoesOn(t *testing.T) {
	small, goes := everyType(2), 0
	for _, a := range small {
		for _, b := range small {
			for _, c := range small {
				if below.Below(a, b) && below.Below(b, c) {
					goes++
					tells(t, a, c, all)
				}
			}
		}
	}
	random := rand.New(rand.NewSource(4))
	for range 20000 {
		b := someType(random, 6)
		a, c := lowered(random, b), raised(random, b)
		tells(t, a, b, all)
		tells(t, b, c, all)
		tells(t, a, c, all)
		if !types.Same(a, b) && !types.Same(b, c) {
			goes++
		}
	}
	if goes < 5000 {
		t.Errorf("only %d", goes)
	}
}

func TestTheOtherTwoDoNotGoOn(t *testing.T) {
	for _, x := range [][3]string{{"int", "?", "bool"}, {"int * ?", "?", "int + ?"}} {
		a, b, c := typed(x[0]), typed(x[1]), typed(x[2])
		if !below.Neg(a, b) || !below.Neg(b, c) || below.Neg(a, c) {
			t.Errorf("%v: Neg goes on", x)
		}
		a, b, c = of(api.Fun, c, integer()), of(api.Fun, b, integer()), of(api.Fun, a, integer())
		if !below.Pos(a, b) || !below.Pos(b, c) || below.Pos(a, c) {
			t.Errorf("%v: Pos goes on", x)
		}
	}
}

// P8.5.
func TestKnownTypes(t *testing.T) {
	known := every(3, integer(), boolean())
	for n, a := range known {
		for m, b := range known {
			want := none
			if n == m {
				want = all
			}
			tells(t, a, b, want)
		}
	}
	random := rand.New(rand.NewSource(5))
	for range 5000 {
		a := closed(someType(random, 7))
		tells(t, a, closed(a), all)
		b := near(random, a)
		want := none
		if types.Same(a, closed(b)) {
			want = all
		}
		tells(t, a, closed(b), want)
	}
}

// closed is a with int wherever it is unknown.
func closed(a api.Type) api.Type {
	if a.Kind == api.Unknown {
		return integer()
	}
	return spread(a, func(_ int, kid api.Type) api.Type { return closed(kid) })
}
