package below_test

import (
	"errors"
	"math"
	"reflect"
	"testing"

	"lychgate/api"
	"lychgate/below"
)

// P8.1: all tests of this file.

func TestExamples(t *testing.T) {
	tellsAll(t, all, [][2]string{{"int", "?"}, {"? -> int", "?"}, {"? -> int", "int -> int"}, {"? -> int", "? -> ?"}})
	tellsAll(t, negative, [][2]string{{"?", "int"}, {"?", "bool"}})
	tellsAll(t, positive, [][2]string{{"int -> int", "?"}, {"int -> int", "? -> int"}, {"int -> int", "? -> ?"}})
	tellsAll(t, none, [][2]string{{"int", "bool"}})
}

// A and ?: just if there is nothing known ahead of an arrow of A, but positively whatever A is.
func TestKnownAndUnknown(t *testing.T) {
	tellsAll(t, all, [][2]string{
		{"?", "?"}, {"int", "?"}, {"bool", "?"}, {"? -> ?", "?"}, {"? * ?", "?"}, {"? + ?", "?"},
		{"? -> bool", "?"}, {"int * bool", "?"}, {"bool + int", "?"}, {"? -> ? -> int", "?"}, {"? -> int * (? + bool)", "?"},
		{"(? -> int) * (? -> ?)", "?"}, {"(? -> int) + ? * int", "?"}, {"? * (int + (? -> ? -> bool))", "?"},
	})
	tellsAll(t, positive, [][2]string{
		{"int -> ?", "?"}, {"bool -> ?", "?"}, {"(? -> ?) -> ?", "?"}, {"? * ? -> ?", "?"}, {"? + ? -> ?", "?"}, {"int -> int", "?"},
		{"? -> int -> ?", "?"}, {"? -> (int -> ?) * ?", "?"}, {"(int -> ?) * ?", "?"}, {"? * (int -> ?)", "?"}, {"(bool -> ?) + ?", "?"}, {"? + (bool -> ?)", "?"},
		{"(? -> int) * (int -> int)", "?"}, {"? -> ? -> ? -> ? + (? -> bool -> int)", "?"},
	})
}

// ? and B: negatively, whatever B is.
func TestUnknownAndKnown(t *testing.T) {
	tellsAll(t, negative, [][2]string{
		{"?", "int"}, {"?", "bool"}, {"?", "? -> ?"}, {"?", "? * ?"}, {"?", "? + ?"}, {"?", "int -> bool"}, {"?", "bool * int"}, {"?", "int + bool"},
		{"?", "(int -> ?) -> ?"}, {"?", "? -> int -> ?"}, {"?", "(int -> ?) * (? + bool)"},
	})
}

func TestTwoBases(t *testing.T) {
	tellsAll(t, all, [][2]string{{"int", "int"}, {"bool", "bool"}})
	tellsAll(t, none, [][2]string{{"int", "bool"}, {"bool", "int"}})
}

// The arguments of functions change sides, and positively and negatively change about.
func TestTwoFunctions(t *testing.T) {
	tellsAll(t, all, [][2]string{
		{"? -> ?", "? -> ?"}, {"int -> int", "int -> int"}, {"int -> int", "int -> ?"}, {"? -> int", "int -> ?"}, {"? -> ?", "int -> ?"}, {"? -> int", "? * bool -> int"},
		{"(int -> ?) -> ?", "(? -> ?) -> ?"}, {"(? -> ?) -> int", "(? -> int) -> ?"}, {"? -> ? -> int", "bool -> int -> ?"}, {"int -> ? -> int", "int -> ?"},
	})
	tellsAll(t, positive, [][2]string{
		{"int -> ?", "? -> ?"}, {"int -> int", "? -> ?"}, {"? -> int -> ?", "? -> ?"}, {"? -> int -> ?", "? -> ? -> ?"}, {"(? -> ?) -> ?", "? -> ?"}, {"(? -> int) -> ?", "(? -> ?) -> ?"},
		{"int * ? -> bool", "? * ? -> ?"}, {"int + bool -> int -> int", "int + ? -> ? -> ?"}, {"((int -> ?) -> ?) -> ?", "((? -> ?) -> ?) -> ?"},
	})
	tellsAll(t, negative, [][2]string{
		{"? -> ?", "? -> int"}, {"? -> ?", "int -> int"}, {"? -> ?", "bool -> int -> int"}, {"? -> ? -> ?", "? -> ? -> int"}, {"? -> ?", "(int -> int) -> int"},
		{"? -> ?", "(int -> ?) -> ?"}, {"? -> ?", "(int -> ?) * ? -> ?"}, {"(? -> ?) -> ?", "(int -> ?) -> ?"}, {"(int -> ?) -> ?", "(? -> ?) -> int"}, {"? -> ? -> ?", "(int -> ?) -> ? -> int"},
	})
	tellsAll(t, none, [][2]string{
		{"int -> ?", "bool -> ?"}, {"? -> int", "? -> bool"}, {"int -> bool", "bool -> int"}, {"int -> ?", "? -> int"}, {"? -> int -> ?", "? -> int * ?"}, {"? -> int -> bool", "? -> ? -> int"},
		{"(? -> ?) -> ?", "? -> int"}, {"int * ? -> ?", "int + ? -> ?"}, {"? -> int -> ?", "(int -> ?) -> ?"},
	})
}

func TestTwoPairsAndTwoSums(t *testing.T) {
	for _, sign := range []string{"*", "+"} {
		with := func(pairs [][4]string) [][2]string {
			var l [][2]string
			for _, x := range pairs {
				l = append(l, [2]string{"(" + x[0] + ")" + sign + "(" + x[1] + ")", "(" + x[2] + ")" + sign + "(" + x[3] + ")"})
			}
			return l
		}
		tellsAll(t, all, with([][4]string{
			{"?", "?", "?", "?"}, {"int", "bool", "int", "bool"}, {"int", "bool", "?", "bool"}, {"int", "bool", "int", "?"}, {"int", "bool", "?", "?"},
			{"? -> int", "int", "bool -> ?", "?"}, {"? -> int", "? * ?", "?", "?"}, {"? + int", "int -> int", "?", "int -> ?"},
		}))
		tellsAll(t, positive, with([][4]string{
			{"int -> ?", "?", "?", "?"}, {"?", "int -> ?", "?", "?"}, {"int -> int", "int", "? -> int", "int"}, {"int", "int -> int", "?", "? -> int"}, {"int -> ?", "bool -> ?", "?", "?"},
		}))
		tellsAll(t, negative, with([][4]string{
			{"?", "?", "int", "?"}, {"?", "?", "?", "int"}, {"?", "?", "int", "bool"}, {"int", "?", "?", "int"}, {"?", "int", "int", "?"}, {"? -> ?", "bool", "? -> int", "?"}, {"? -> int", "?", "?", "int -> int"},
		}))
		tellsAll(t, none, with([][4]string{
			{"int", "?", "bool", "?"}, {"?", "int", "?", "bool"}, {"int", "bool", "bool", "int"}, {"int -> ?", "?", "?", "int"}, {"?", "int -> ?", "int", "?"}, {"? * ?", "?", "? + ?", "?"},
		}))
	}
}

// Two others: unlike constructors.
func TestUnlikeConstructors(t *testing.T) {
	groups := [][]string{{"int"}, {"bool"}, {"? -> ?", "? -> int", "int -> ?"}, {"? * ?", "int * bool"}, {"? + ?", "int + bool"}}
	for n, left := range groups {
		for m, right := range groups {
			for _, a := range left {
				for _, b := range right {
					if n != m {
						tells(t, typed(a), typed(b), none)
					}
				}
			}
		}
	}
}

func TestUpToTheBounds(t *testing.T) {
	for _, kind := range kindsWithParts() {
		for _, right := range []bool{false, true} {
			l := wholes(kind, api.MaxDepth, right, unknown(), integer(), boolean())
			open, closed, other := l[0], l[1], l[2]
			tells(t, open, open, all)
			tells(t, closed, closed, all)
			tells(t, closed, other, none)
			tells(t, unknown(), closed, negative)
			if kind == api.Fun {
				tells(t, closed, unknown(), positive)
			} else {
				tells(t, closed, unknown(), all)
			}
			if kind == api.Fun && !right { // ahead of 199 arrows: the sides are changed an odd number of times
				tells(t, open, closed, all)
				tells(t, closed, open, positive)
			} else {
				tells(t, closed, open, all)
				tells(t, open, closed, negative)
			}
		}
		wide := full(kind, 13, integer())
		tells(t, wide, wide, all)
		tells(t, wide, full(kind, 13, boolean()), none)
		tells(t, unknown(), wide, negative)
		if kind == api.Fun {
			tells(t, wide, unknown(), positive)
			tells(t, wide, full(kind, 13, unknown()), positive)
			tells(t, full(kind, 13, unknown()), wide, negative)
		} else {
			tells(t, wide, unknown(), all)
			tells(t, wide, full(kind, 13, unknown()), all)
			tells(t, full(kind, 13, unknown()), wide, negative)
		}
	}
}

func TestWhatIsNoTypeIsBelowNothing(t *testing.T) {
	l := noTypes()
	good := []api.Type{unknown(), integer(), boolean(), typed("? -> ?"), typed("? * ?"), typed("? + ?")}
	for _, a := range l {
		for _, b := range append(good, l...) {
			tells(t, a, b, none)
			tells(t, b, a, none)
		}
		for _, kind := range kindsWithParts() {
			left, right := of(kind, a, unknown()), of(kind, unknown(), a)
			for _, b := range []api.Type{unknown(), of(kind, unknown(), unknown()), left, right} {
				tells(t, left, b, none)
				tells(t, b, left, none)
				tells(t, right, b, none)
				tells(t, b, right, none)
			}
		}
	}
}

func TestEveryKindWithUpToThreeKids(t *testing.T) {
	for kind := math.MinInt8; kind <= math.MaxInt8; kind++ {
		for kids := range 4 {
			a := of(int8(kind), make([]api.Type, kids)...)
			itself, down := none, none
			if kind >= 0 && kind <= 2 && kids == 0 || kind >= 3 && kind <= 5 && kids == 2 {
				itself, down = all, negative
			}
			if kind == api.Unknown {
				down = itself
			}
			tells(t, a, a, itself)
			tells(t, a, unknown(), itself)
			tells(t, unknown(), a, down)
		}
	}
}

// Empty lists and none are one (R6).
func TestEmptyLists(t *testing.T) {
	i, u := api.Type{Kind: api.Int, Kids: []api.Type{}}, api.Type{Kids: []api.Type{}}
	tells(t, i, integer(), all)
	tells(t, integer(), i, all)
	tells(t, u, unknown(), all)
	tells(t, i, u, all)
	tells(t, u, i, negative)
	tells(t, of(api.Fun, i, u), of(api.Fun, unknown(), unknown()), positive)
}

// R3: the lists that are handed in stay as they are, with the room behind their ends.
func TestArgumentsStay(t *testing.T) {
	made := func() (a api.Type, kids, inner []api.Type) {
		inner = []api.Type{unknown(), integer(), of(76)}
		kids = []api.Type{of(api.Sum, inner[:2]...), unknown(), of(77), of(78)}
		return of(api.Fun, kids[:2]...), kids, inner
	}
	a, kids, inner := made()
	_, wantKids, wantInner := made()
	b := typed("(? + int -> ?) * int")
	for _, x := range []api.Type{a, b, unknown(), typed("int + ? -> int"), of(api.Pair, a, a)} {
		asked(a, x)
		asked(x, a)
	}
	if !reflect.DeepEqual(kids, wantKids) || !reflect.DeepEqual(inner, wantInner) || !reflect.DeepEqual(b, typed("(? + int -> ?) * int")) {
		t.Errorf("now %v, within %v, and %v", kids, inner, b)
	}
}

// R2: how many goroutines work changes no answer.
func TestManyAtATime(t *testing.T) {
	deep, wide, noType := wholes(api.Fun, api.MaxDepth, true, integer())[0], full(api.Sum, 13, integer()), endless(api.Pair)
	done := make(chan error)
	for range 8 {
		go func() {
			var err error
			for range 50 {
				if !below.Below(wide, unknown()) || below.Below(deep, unknown()) || !below.Pos(deep, unknown()) || below.Neg(deep, unknown()) || !below.Neg(unknown(), deep) || below.Pos(noType, unknown()) {
					err = errors.New("another answer")
				}
			}
			done <- err
		}()
	}
	for range 8 {
		if err := <-done; err != nil {
			t.Error(err)
		}
	}
}
