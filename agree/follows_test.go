package agree_test

import (
	"math/rand"
	"slices"
	"testing"

	"lychgate/agree"
	"lychgate/api"
)

// typesOf are all types up to a depth.
func typesOf(depth int) []api.Type { return built(depth, unknown(), integer(), boolean()) }

// knownOf are all types up to a depth in which nothing is unknown.
func knownOf(depth int) []api.Type { return built(depth, integer(), boolean()) }

func built(depth int, atoms ...api.Type) []api.Type {
	all := slices.Clone(atoms)
	if depth == 1 {
		return all
	}
	parts := built(depth-1, atoms...)
	for kind := int8(api.Fun); kind <= api.Sum; kind++ {
		for _, l := range parts {
			for _, r := range parts {
				all = append(all, of(kind, l, r))
			}
		}
	}
	return all
}

func someType(random *rand.Rand, depth int) api.Type {
	kind := int8(random.Intn(8))
	if depth == 1 || kind > api.Sum {
		kind %= 3
	}
	if kind <= api.Bool {
		return of(kind)
	}
	return of(kind, someType(random, depth-1), someType(random, depth-1))
}

// opened is a with some parts made unknown, and, if it is to be spoilt, perhaps some changed.
func opened(random *rand.Rand, a api.Type, spoil bool) api.Type {
	switch {
	case random.Intn(8) == 0:
		return unknown()
	case spoil && random.Intn(8) == 0:
		return someType(random, 2)
	}
	b := of(a.Kind)
	for _, kid := range a.Kids {
		b.Kids = append(b.Kids, opened(random, kid, spoil))
	}
	return b
}

// The rule written down a second time: two types agree, if there is a known type that both may turn out to be.

// mayBe tells whether a may turn out to be the known type k.
func mayBe(a, k api.Type) bool {
	if a.Kind == api.Unknown {
		return true
	}
	if a.Kind != k.Kind {
		return false
	}
	for n, kid := range a.Kids {
		if !mayBe(kid, k.Kids[n]) {
			return false
		}
	}
	return true
}

// turnsOut tells for each of known whether a may turn out to be it, a bit for each.
func turnsOut(a api.Type, known []api.Type) []uint64 {
	bits := make([]uint64, (len(known)+63)/64)
	for n, k := range known {
		if mayBe(a, k) {
			bits[n/64] |= 1 << (n % 64)
		}
	}
	return bits
}

func meet(a, b []uint64) bool {
	for n := range a {
		if a[n]&b[n] != 0 {
			return true
		}
	}
	return false
}

// P6.1, and P6.3: both ways.
func TestAgreeAgainstASecondRule(t *testing.T) {
	all, small, known := typesOf(3), typesOf(2), knownOf(3) // two types three deep that agree may turn out to be one that is no deeper
	var bits, smallBits [][]uint64
	for _, a := range all {
		bits = append(bits, turnsOut(a, known))
	}
	for _, a := range small {
		smallBits = append(smallBits, turnsOut(a, known))
	}
	tried := map[bool]int{}
	try := func(a, b api.Type, want bool) {
		agrees(t, a, b, want)
		tried[want]++
		if t.Failed() {
			t.FailNow() // one is enough: the next ones would tell the same
		}
	}
	for n, a := range all {
		for m, b := range small {
			try(a, b, meet(bits[n], smallBits[m]))
		}
	}
	random := rand.New(rand.NewSource(1))
	for range 300000 {
		n, m := random.Intn(len(all)), random.Intn(len(all))
		try(all[n], all[m], meet(bits[n], bits[m]))
	}
	if tried[true] < 10000 || tried[false] < 10000 {
		t.Errorf("too few of a sort: %v", tried)
	}
}

// P6.1 and P6.3, of greater types.
func TestAgreeOfWhatIsOpened(t *testing.T) {
	random := rand.New(rand.NewSource(2))
	tried := map[bool]int{}
	for range 20000 {
		a := someType(random, 7)
		agrees(t, opened(random, a, false), opened(random, a, false), true)
		b, c := opened(random, a, true), opened(random, a, true)
		want := clash(b, c)
		agrees(t, b, c, !want)
		tried[want]++
		if t.Failed() {
			return
		}
	}
	if tried[true] < 2000 || tried[false] < 2000 {
		t.Errorf("too few of a sort: %v", tried)
	}
}

// clash tells whether there is a place at which a and b are both known, but of unlike kinds.
func clash(a, b api.Type) bool {
	for _, place := range places(a, nil) {
		x, y := kindAt(a, place), kindAt(b, place)
		if x > 0 && y > 0 && x != y {
			return true
		}
	}
	return false
}

// places are the ways from the whole of a to each of its types, by the numbers of the kids on them.
func places(a api.Type, here []int) [][]int {
	all := [][]int{here}
	for n, kid := range a.Kids {
		all = append(all, places(kid, append(here[:len(here):len(here)], n))...)
	}
	return all
}

// kindAt is the kind of what stands at a place; of nothing, that of Unknown.
func kindAt(a api.Type, place []int) int8 {
	for _, n := range place {
		if n >= len(a.Kids) {
			return api.Unknown
		}
		a = a.Kids[n]
	}
	return a.Kind
}

// P6.3.
func TestAgreeWithItselfAndWithUnknown(t *testing.T) {
	for _, a := range typesOf(3) {
		agrees(t, a, a, true)
		agrees(t, a, unknown(), true)
	}
}

// P6.3.
func TestKnownTypesAgreeJustIfSame(t *testing.T) {
	all := knownOf(3)
	for n, a := range all {
		for m, b := range all {
			if agree.Agree(a, b) != (n == m) {
				t.Fatalf("Agree(%s, %s) is not %v", short(a), short(b), n == m)
			}
		}
	}
}

// P6.3.
func TestAgreeDoesNotGoOn(t *testing.T) {
	i, b, u := integer(), boolean(), unknown()
	agrees(t, i, u, true)
	agrees(t, u, b, true)
	agrees(t, i, b, false)
	agrees(t, fun(i, i), fun(i, u), true)
	agrees(t, fun(i, u), fun(i, fun(i, i)), true)
	agrees(t, fun(i, i), fun(i, fun(i, i)), false)
}

// P6.4, its first half.
func TestATypeAgreesWithItsParts(t *testing.T) {
	for _, a := range typesOf(3) {
		for kind := int8(api.Fun); kind <= api.Sum; kind++ {
			l, r, ok := agree.As(kind, a)
			if ok != agree.Agree(a, of(kind, unknown(), unknown())) {
				t.Fatalf("As(%d, %s): %v", kind, short(a), ok)
			}
			if ok {
				agrees(t, a, of(kind, l, r), true)
			}
		}
	}
}

// P6.4, its second half.
func TestPartsOfTypesThatAgree(t *testing.T) {
	all := typesOf(3)
	random := rand.New(rand.NewSource(3))
	tried := 0
	for range 300000 {
		a, b := all[random.Intn(len(all))], all[random.Intn(len(all))]
		if a.Kind != b.Kind || a.Kind < api.Fun {
			continue
		}
		l, r, _ := agree.As(a.Kind, a)
		left, right, _ := agree.As(b.Kind, b)
		if agree.Agree(a, b) != (agree.Agree(l, left) && agree.Agree(r, right)) {
			t.Fatalf("Agree(%s, %s) is not what it is of their parts", short(a), short(b))
		}
		if agree.Agree(a, b) {
			tried++
		}
	}
	if tried < 1000 {
		t.Errorf("only %d", tried)
	}
}
