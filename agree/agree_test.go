package agree_test

import (
	"errors"
	"fmt"
	"math"
	"reflect"
	"testing"

	"lychgate/agree"
	"lychgate/api"
	"lychgate/types"
)

func of(kind int8, kids ...api.Type) api.Type { return api.Type{Kind: kind, Kids: kids} }

func unknown() api.Type { return of(api.Unknown) }

func integer() api.Type { return of(api.Int) }

func boolean() api.Type { return of(api.Bool) }

func fun(a, b api.Type) api.Type { return of(api.Fun, a, b) }

func pair(a, b api.Type) api.Type { return of(api.Pair, a, b) }

func sum(a, b api.Type) api.Type { return of(api.Sum, a, b) }

// down is a type so many types deep, with another one at its bottom, as the left or the right part.
func down(kind int8, depth int, right bool, bottom api.Type) api.Type {
	for range depth - types.Depth(bottom) {
		if right {
			bottom = of(kind, integer(), bottom)
		} else {
			bottom = of(kind, bottom, integer())
		}
	}
	return bottom
}

// full is a type of 2^depth - 1 nodes, whose parts are shared.
func full(kind int8, depth int, bottom api.Type) api.Type {
	for range depth - 1 {
		bottom = of(kind, bottom, bottom)
	}
	return bottom
}

// endless is a type that lies within itself.
func endless(kind int8) api.Type {
	kids := make([]api.Type, 2)
	kids[0], kids[1] = integer(), of(kind, kids...)
	return kids[1]
}

// short is what a looks like: its text, or, of one that is none, how it begins.
func short(a api.Type) string {
	if text, e := types.Text(a); e == api.OK {
		return fmt.Sprintf("%.200s", text)
	}
	if types.Check(a) == api.ErrTooBig {
		return "one too great"
	}
	return fmt.Sprintf("%.200s", fmt.Sprint(a))
}

// agrees wants an answer, whichever of the two is handed in first.
func agrees(t *testing.T, a, b api.Type, want bool) {
	t.Helper()
	if agree.Agree(a, b) != want {
		t.Errorf("Agree(%s, %s) is not %v", short(a), short(b), want)
	}
	if agree.Agree(b, a) != want {
		t.Errorf("Agree(%s, %s) is not %v", short(b), short(a), want)
	}
}

// hasParts wants two parts and true.
func hasParts(t *testing.T, kind int8, a, left, right api.Type) {
	t.Helper()
	l, r, ok := agree.As(kind, a)
	if !ok || !types.Same(l, left) || !types.Same(r, right) {
		t.Errorf("As(%d, %s) = %s, %s, %v; want %s, %s", kind, short(a), short(l), short(r), ok, short(left), short(right))
	}
}

// hasNone wants two zero types and false.
func hasNone(t *testing.T, kind int8, a api.Type) {
	t.Helper()
	l, r, ok := agree.As(kind, a)
	if ok || l.Kind != 0 || len(l.Kids) != 0 || r.Kind != 0 || len(r.Kids) != 0 {
		t.Errorf("As(%d, %s) = %s, %s, %v; want nothing", kind, short(a), short(l), short(r), ok)
	}
}

// P6.1: this test and those behind it, up to those of As.
func TestTypesThatAgree(t *testing.T) {
	i, b, u := integer(), boolean(), unknown()
	for _, x := range [][2]api.Type{
		{u, u}, {i, i}, {b, b}, {u, i}, {u, b}, {u, fun(i, b)}, {u, pair(i, b)}, {u, sum(i, b)}, {u, fun(u, u)},
		{fun(i, u), fun(u, b)}, {pair(i, u), pair(u, b)}, {sum(i, u), sum(u, b)},
		{fun(i, b), fun(i, b)}, {pair(i, b), pair(i, b)}, {sum(i, b), sum(i, b)},
		{fun(u, u), fun(i, b)}, {fun(u, b), fun(i, b)}, {fun(i, u), fun(i, b)},
		{fun(u, fun(i, b)), fun(pair(i, i), u)}, {fun(fun(u, i), sum(i, b)), fun(fun(b, u), sum(u, u))},
		{pair(fun(u, i), u), pair(u, sum(i, b))}, {sum(pair(i, pair(b, u)), u), sum(pair(u, pair(b, i)), fun(i, i))},
	} {
		agrees(t, x[0], x[1], true)
	}
}

func TestTypesThatDoNotAgree(t *testing.T) {
	i, b, u := integer(), boolean(), unknown()
	for _, x := range [][2]api.Type{
		{i, b}, {i, fun(i, i)}, {i, pair(i, i)}, {i, sum(i, i)}, {b, fun(u, u)}, {b, pair(u, u)}, {b, sum(u, u)},
		{fun(i, i), pair(i, i)}, {fun(i, i), sum(i, i)}, {pair(i, i), sum(i, i)},
		{fun(u, u), pair(u, u)}, {fun(u, u), sum(u, u)}, {pair(u, u), sum(u, u)},
		{pair(i, i), pair(u, b)}, {pair(i, i), pair(b, u)}, {fun(i, b), fun(b, i)}, {sum(i, b), sum(b, i)},
		{fun(i, u), fun(b, u)}, {fun(u, i), fun(u, b)}, {pair(i, u), pair(b, i)}, {sum(u, i), sum(i, b)},
		{fun(i, fun(i, i)), fun(fun(i, i), i)}, {sum(sum(i, b), i), sum(i, sum(b, i))},
		{fun(u, pair(u, sum(i, u))), fun(u, pair(u, sum(b, u)))}, {fun(fun(u, pair(i, i)), u), fun(fun(u, sum(i, i)), u)},
	} {
		agrees(t, x[0], x[1], false)
	}
}

func TestAgreeUpToTheBounds(t *testing.T) {
	i, b, u := integer(), boolean(), unknown()
	for kind := int8(api.Fun); kind <= api.Sum; kind++ {
		for _, right := range []bool{false, true} {
			deep := down(kind, api.MaxDepth, right, i)
			agrees(t, deep, deep, true)
			agrees(t, deep, down(kind, api.MaxDepth, right, u), true)
			agrees(t, deep, down(kind, 100, right, u), true)
			agrees(t, deep, down(kind, api.MaxDepth, right, b), false)
			agrees(t, deep, down(kind, 100, right, b), false)
			agrees(t, deep, down(kind, 100, right, i), false)
			agrees(t, deep, u, true)
		}
		wide := full(kind, 13, i)
		agrees(t, wide, full(kind, 13, i), true)
		agrees(t, wide, full(kind, 13, u), true)
		agrees(t, wide, full(kind, 13, b), false)
		agrees(t, wide, u, true)
	}
}

// spoilt are no types, for all sorts of causes.
func spoilt() []api.Type {
	i, u := integer(), unknown()
	return []api.Type{
		of(6), of(-1), of(127), of(-128), of(6, i, i), of(6, u, u),
		of(api.Unknown, i), of(api.Unknown, u, u), of(api.Int, i), of(api.Bool, i, i),
		of(api.Fun), of(api.Fun, i), of(api.Fun, i, i, i), of(api.Pair), of(api.Pair, u), of(api.Pair, u, u, u), of(api.Sum), of(api.Sum, i, i, i, i),
		fun(of(6), i), fun(i, of(6)), pair(of(api.Int, u), u), sum(i, pair(u, of(api.Unknown, u))), pair(of(api.Fun), of(api.Fun)),
		down(api.Fun, 200, true, of(6)), full(api.Pair, 13, of(-1)),
		fun(i, down(api.Fun, 200, true, i)), sum(down(api.Sum, 200, false, u), u), down(api.Pair, 4096, false, i), down(api.Fun, 3000, true, u),
		full(api.Sum, 14, i), pair(full(api.Pair, 12, i), pair(full(api.Pair, 12, i), i)), full(api.Pair, 40, u), full(api.Fun, 100, of(9)),
		endless(api.Fun), endless(api.Sum), endless(99), endless(api.Unknown),
	}
}

func TestWhatIsNoTypeAgreesWithNothing(t *testing.T) {
	i, u := integer(), unknown()
	all := spoilt()
	for _, a := range all {
		for _, b := range append([]api.Type{u, i, boolean(), fun(u, u), pair(u, u), sum(u, u)}, all...) {
			agrees(t, a, b, false)
		}
		for kind := int8(api.Fun); kind <= api.Sum; kind++ {
			agrees(t, of(kind, a, i), of(kind, u, i), false)
			agrees(t, of(kind, i, a), of(kind, i, u), false)
			agrees(t, of(kind, i, a), of(kind, i, a), false)
			agrees(t, of(kind, i, a), u, false)
		}
	}
}

func TestAgreeOfEveryKindWithUpToThreeKids(t *testing.T) {
	for kind := math.MinInt8; kind <= math.MaxInt8; kind++ {
		for kids := range 4 {
			a := of(int8(kind), make([]api.Type, kids)...)
			want := kind >= 0 && kind <= 2 && kids == 0 || kind >= 3 && kind <= 5 && kids == 2
			agrees(t, a, a, want)
			agrees(t, a, unknown(), want)
			agrees(t, sum(unknown(), a), sum(unknown(), a), want)
		}
	}
}

// Empty lists and none are one (R6).
func TestEmptyLists(t *testing.T) {
	i := api.Type{Kind: api.Int, Kids: []api.Type{}}
	u := api.Type{Kids: []api.Type{}}
	agrees(t, i, integer(), true)
	agrees(t, i, u, true)
	agrees(t, fun(i, u), fun(integer(), boolean()), true)
	hasParts(t, api.Fun, fun(i, u), integer(), unknown())
	hasParts(t, api.Pair, u, unknown(), unknown())
	hasNone(t, api.Sum, i)
}

// P6.2: this test and those behind it.
func TestPartsOfTypes(t *testing.T) {
	i, b, u := integer(), boolean(), unknown()
	for kind := int8(api.Fun); kind <= api.Sum; kind++ {
		hasParts(t, kind, u, u, u)
		for _, left := range []api.Type{i, b, u, fun(i, b), pair(b, u), sum(u, i), down(kind, 199, true, b), full(kind, 12, i)} {
			for _, right := range []api.Type{i, b, u, fun(u, b), pair(b, i), sum(i, i), down(kind, 199, false, i), full(kind, 12, u)} {
				hasParts(t, kind, of(kind, left, right), left, right)
			}
		}
	}
}

func TestEveryKindOfEveryType(t *testing.T) {
	for _, a := range typesOf(2) {
		for kind := math.MinInt8; kind <= math.MaxInt8; kind++ {
			switch {
			case kind < api.Fun || kind > api.Sum:
				hasNone(t, int8(kind), a)
			case a.Kind == api.Unknown:
				hasParts(t, int8(kind), a, unknown(), unknown())
			case int(a.Kind) == kind:
				hasParts(t, int8(kind), a, a.Kids[0], a.Kids[1])
			default:
				hasNone(t, int8(kind), a)
			}
		}
	}
}

func TestWhatIsNoTypeHasNoParts(t *testing.T) {
	for _, a := range spoilt() {
		for kind := math.MinInt8; kind <= math.MaxInt8; kind++ {
			hasNone(t, int8(kind), a)
		}
		for kind := int8(api.Fun); kind <= api.Sum; kind++ {
			hasNone(t, kind, of(kind, a, integer()))
			hasNone(t, kind, of(kind, unknown(), a))
		}
	}
}

// R3: the lists that are handed in stay as they are, with the room behind their ends.
func TestArgumentsStay(t *testing.T) {
	inner := []api.Type{unknown(), integer(), of(76)}
	kids := []api.Type{of(api.Sum, inner[:2]...), boolean(), of(77), of(78)}
	a := of(api.Fun, kids[:2]...)
	agree.Agree(a, a)
	agree.Agree(a, fun(unknown(), boolean()))
	agree.As(api.Fun, a)
	agree.As(api.Sum, a)
	if !reflect.DeepEqual(inner, []api.Type{unknown(), integer(), of(76)}) || !reflect.DeepEqual(kids, []api.Type{of(api.Sum, inner[:2]...), boolean(), of(77), of(78)}) {
		t.Errorf("now %v, within %v", kids, inner)
	}
}

// R3: what is written into a part is in no other part, in no other answer, and not in what was handed in.
func TestPartsShareNothing(t *testing.T) {
	shared := pair(integer(), sum(boolean(), unknown()))
	a, want := fun(shared, shared), pair(integer(), sum(boolean(), unknown()))
	first, second, _ := agree.As(api.Fun, a)
	for _, part := range []api.Type{first, second} {
		part.Kids[1].Kids[0] = of(99)
		part.Kids[0] = of(98)
		if !types.Same(shared, want) {
			t.Fatalf("what was handed in is now %v", shared)
		}
	}
	hasParts(t, api.Fun, a, want, want)
	first, second, _ = agree.As(api.Fun, a)
	first.Kids[1].Kids[1] = boolean()
	if !types.Same(second, want) {
		t.Errorf("the other part is now %v", second)
	}
	second.Kids[0] = boolean()
	if !types.Same(first, pair(integer(), sum(boolean(), boolean()))) {
		t.Errorf("the other part is now %v", first)
	}
	// What is added at the end of a list is in no other one, either.
	first, second, _ = agree.As(api.Fun, a)
	_, _ = append(first.Kids, of(97)), append(second.Kids, of(96))
	hasParts(t, api.Fun, a, want, want)
}

// R2: how many goroutines work changes no answer.
func TestManyAtATime(t *testing.T) {
	i, u := integer(), unknown()
	deep, wide, none := down(api.Fun, 200, true, i), full(api.Sum, 13, u), full(api.Pair, 40, u)
	done := make(chan error)
	for range 8 {
		go func() {
			var all error
			for range 50 {
				l, r, ok := agree.As(api.Sum, wide)
				if !ok || !agree.Agree(l, r) || !agree.Agree(deep, u) || agree.Agree(deep, wide) || agree.Agree(none, u) {
					all = errors.New("another answer")
				}
			}
			done <- all
		}()
	}
	for range 8 {
		if err := <-done; err != nil {
			t.Error(err)
		}
	}
}
