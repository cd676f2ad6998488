package order_test

import (
	"errors"
	"math"
	"reflect"
	"testing"

	"lychgate/api"
	"lychgate/order"
	"lychgate/types"
)

// P7.1: this test and those behind it, up to those of Meet.
func TestLess(t *testing.T) {
	for _, x := range [][2]string{
		{"?", "?"}, {"?", "int"}, {"?", "bool"}, {"?", "? -> ?"}, {"?", "int * bool"}, {"?", "(? -> int) + ?"},
		{"int", "int"}, {"bool", "bool"}, {"? -> int", "bool -> int"}, {"int -> ?", "int -> bool"}, {"? * ?", "int * bool"}, {"? + ?", "int + bool"},
		{"int -> bool", "int -> bool"}, {"int * bool", "int * bool"}, {"int + bool", "int + bool"},
		{"? -> ?", "(? -> ?) -> ? * ?"}, {"? -> (? -> bool)", "int * ? -> int -> bool"}, {"(? + int) * ?", "(bool + int) * (int -> ?)"},
	} {
		less(t, typed(x[0]), typed(x[1]), true)
	}
}

func TestNotLess(t *testing.T) {
	for _, x := range [][2]string{
		{"int", "?"}, {"bool", "?"}, {"? -> ?", "?"}, {"? * ?", "?"}, {"? + ?", "?"}, {"int", "bool"}, {"bool", "int"},
		{"int", "? -> ?"}, {"? -> ?", "int"}, {"? * ?", "bool"}, {"? -> ?", "? * ?"}, {"? * ?", "? + ?"}, {"? + ?", "? -> ?"},
		{"? -> ?", "int * bool"}, {"? + ?", "int * bool"},
		{"int -> ?", "? -> int"}, {"int -> ?", "? -> ?"}, {"? -> int", "? -> ?"}, {"int * ?", "? * int"}, {"int * ?", "? * ?"}, {"? * int", "? * ?"},
		{"int + ?", "? + int"}, {"int + ?", "? + ?"}, {"? + int", "? + ?"}, {"bool -> int", "? -> int"},
		{"int -> ?", "bool -> int"}, {"? * int", "int * bool"}, {"int -> bool", "bool -> int"}, {"int + bool", "bool + int"},
		{"? -> (? -> bool)", "int * ? -> int -> ?"}, {"(? + int) * ?", "(bool + ?) * (int -> ?)"}, {"(? -> ?) -> ?", "? -> ?"},
	} {
		less(t, typed(x[0]), typed(x[1]), false)
	}
}

func TestLessUpToTheBounds(t *testing.T) {
	i, b, u := integer(), boolean(), unknown()
	for kind := int8(api.Fun); kind <= api.Sum; kind++ {
		for _, right := range []bool{false, true} {
			deep := down(kind, api.MaxDepth, right, i)
			less(t, deep, deep, true)
			less(t, u, deep, true)
			less(t, deep, u, false)
			less(t, down(kind, api.MaxDepth, right, u), deep, true)
			less(t, deep, down(kind, api.MaxDepth, right, u), false)
			less(t, down(kind, 100, right, u), deep, true)
			less(t, deep, down(kind, 100, right, u), false)
			less(t, down(kind, 100, right, i), deep, false)
			less(t, deep, down(kind, api.MaxDepth, right, b), false)
		}
		wide := full(kind, 13, i)
		less(t, wide, full(kind, 13, i), true)
		less(t, full(kind, 13, u), wide, true)
		less(t, wide, full(kind, 13, u), false)
		less(t, full(kind, 13, b), wide, false)
		less(t, u, wide, true)
		less(t, wide, u, false)
	}
}

func TestWhatIsNoTypeIsNotLess(t *testing.T) {
	i, u := integer(), unknown()
	all := noTypes()
	for _, a := range all {
		for _, b := range append([]api.Type{u, i, boolean(), typed("? -> ?"), typed("? * ?"), typed("? + ?")}, all...) {
			less(t, a, b, false)
			less(t, b, a, false)
		}
		for kind := int8(api.Fun); kind <= api.Sum; kind++ {
			less(t, u, of(kind, a, i), false)
			less(t, of(kind, u, i), of(kind, a, i), false)
			less(t, of(kind, i, u), of(kind, i, a), false)
			less(t, of(kind, i, a), of(kind, i, a), false)
		}
	}
}

func TestEveryKindWithUpToThreeKids(t *testing.T) {
	for kind := math.MinInt8; kind <= math.MaxInt8; kind++ {
		for kids := range 4 {
			a := of(int8(kind), make([]api.Type, kids)...)
			good := kind >= 0 && kind <= 2 && kids == 0 || kind >= 3 && kind <= 5 && kids == 2
			less(t, a, a, good)
			less(t, unknown(), a, good)
			less(t, a, unknown(), good && kind == 0)
			if good {
				meets(t, a, a, a)
				meets(t, a, unknown(), a)
			} else {
				meetNot(t, a, a)
				meetNot(t, a, unknown())
			}
		}
	}
}

// Empty lists and none are one (R6).
func TestEmptyLists(t *testing.T) {
	i, u := api.Type{Kind: api.Int, Kids: []api.Type{}}, api.Type{Kids: []api.Type{}}
	less(t, i, integer(), true)
	less(t, integer(), i, true)
	less(t, u, i, true)
	less(t, i, u, false)
	less(t, pair(u, i), typed("bool * int"), true)
	meets(t, i, integer(), integer())
	meets(t, u, i, integer())
	meets(t, u, unknown(), unknown())
	meetNot(t, i, boolean())
}

// P7.2: this test and those behind it, up to those of Terms.
func TestMeet(t *testing.T) {
	for _, x := range [][3]string{
		{"?", "?", "?"}, {"?", "int", "int"}, {"?", "bool", "bool"}, {"?", "? * int", "? * int"}, {"?", "(int -> ?) -> bool", "(int -> ?) -> bool"},
		{"int", "int", "int"}, {"bool", "bool", "bool"},
		{"? -> int", "bool -> ?", "bool -> int"}, {"? * ?", "?", "? * ?"}, {"? + ?", "? + ?", "? + ?"},
		{"? * int", "bool * ?", "bool * int"}, {"? + int", "bool + ?", "bool + int"},
		{"int -> ?", "int -> ?", "int -> ?"}, {"int -> ?", "int -> int * ?", "int -> int * ?"}, {"? -> bool", "(? + int) -> ?", "(? + int) -> bool"},
		{"(? -> int) -> ?", "(bool -> ?) -> (? + ?)", "(bool -> int) -> (? + ?)"},
		{"(int * ?) + (? -> (? -> int))", "(? * (int -> ?)) + (bool -> ?)", "(int * (int -> ?)) + (bool -> ? -> int)"},
	} {
		meets(t, typed(x[0]), typed(x[1]), typed(x[2]))
	}
}

func TestTypesThatDoNotMeet(t *testing.T) {
	for _, x := range [][2]string{
		{"int", "bool"}, {"int", "? -> ?"}, {"bool", "? * ?"}, {"int", "? + ?"}, {"? -> ?", "? * ?"}, {"? * ?", "? + ?"}, {"? + ?", "? -> ?"},
		{"int -> ?", "bool -> ?"}, {"? -> int", "? -> bool"}, {"int * ?", "bool * int"}, {"? + int", "int + bool"},
		{"? * (int -> ?)", "int * (bool -> int)"}, {"(? -> int) * ?", "(int -> ? * ?) * int"}, {"? -> int", "int -> ? -> int"},
	} {
		meetNot(t, typed(x[0]), typed(x[1]))
	}
}

func TestMeetUpToTheBounds(t *testing.T) {
	i, b, u := integer(), boolean(), unknown()
	for kind := int8(api.Fun); kind <= api.Sum; kind++ {
		for _, right := range []bool{false, true} {
			deep := down(kind, api.MaxDepth, right, i)
			meets(t, deep, deep, deep)
			meets(t, deep, u, deep)
			meets(t, deep, down(kind, api.MaxDepth, right, u), deep)
			meets(t, deep, down(kind, 100, right, u), deep)
			meetNot(t, deep, down(kind, api.MaxDepth, right, b))
			meetNot(t, deep, down(kind, 100, right, i))
		}
		wide := full(kind, 13, i)
		meets(t, wide, full(kind, 13, u), wide)
		meets(t, wide, full(kind, 13, i), wide)
		meets(t, wide, u, wide)
		meetNot(t, wide, full(kind, 13, b))
	}
}

// A Meet may be greater than a type may be: it is told all the same, and is none for Less.
func TestMeetsThatAreTooGreat(t *testing.T) {
	i, u := integer(), unknown()
	for kind := int8(api.Fun); kind <= api.Sum; kind++ {
		big := of(kind, full(kind, 12, i), of(kind, full(kind, 11, i), of(kind, full(kind, 10, i), of(kind, full(kind, 9, i), full(kind, 8, i)))))
		a, b := of(kind, big, u), of(kind, u, big)
		if types.Check(a) != api.OK || types.Nodes(a) < 7900 {
			t.Fatal("the test's own type is wrong")
		}
		meets(t, a, b, of(kind, big, big))
		m, _ := order.Meet(a, b)
		less(t, a, m, false)
		less(t, m, m, false)
		meetNot(t, m, u)
	}
	// The greatest that is a type, by a node.
	a, b := pair(full(api.Sum, 12, i), u), pair(u, full(api.Sum, 12, i))
	meets(t, a, b, pair(full(api.Sum, 12, i), full(api.Sum, 12, i)))
	m, _ := order.Meet(a, b)
	less(t, a, m, true)
	less(t, b, m, true)
}

func TestWhatIsNoTypeMeetsNothing(t *testing.T) {
	i, u := integer(), unknown()
	all := noTypes()
	for _, a := range all {
		for _, b := range append([]api.Type{u, i, boolean(), typed("? -> ?"), typed("? * ?"), typed("? + ?")}, all...) {
			meetNot(t, a, b)
		}
		for kind := int8(api.Fun); kind <= api.Sum; kind++ {
			meetNot(t, of(kind, a, i), of(kind, u, i))
			meetNot(t, of(kind, i, a), of(kind, i, u))
			meetNot(t, of(kind, i, a), u)
		}
	}
}

// R3: the lists that are handed in stay as they are, with the room behind their ends.
func TestArgumentsStay(t *testing.T) {
	made := func() (api.Type, []api.Type, []api.Type) {
		inner := []api.Type{unknown(), integer(), of(76)}
		kids := []api.Type{of(api.Sum, inner[:2]...), unknown(), of(77), of(78)}
		return of(api.Fun, kids[:2]...), inner, kids
	}
	a, inner, kids := made()
	_, wantInner, wantKids := made()
	b := typed("bool + int -> int * ?")
	order.Less(a, b)
	order.Less(b, a)
	order.Meet(a, b)
	order.Meet(b, a)
	order.Meet(a, unknown())
	x, y := api.Term{Kind: api.Lam, Name: "x", Type: a, Kids: []api.Term{{Name: "y", At: 3}}}, api.Term{Kind: api.Lam, Name: "x", Type: b, Kids: []api.Term{{Name: "y", At: 4}}}
	lessTerms(t, x, y, true)
	if !reflect.DeepEqual(inner, wantInner) || !reflect.DeepEqual(kids, wantKids) || !same(b, typed("bool + int -> int * ?")) {
		t.Errorf("now %v, within %v, and %v", kids, inner, b)
	}
	if !reflect.DeepEqual(x.Kids, []api.Term{{Name: "y", At: 3}}) || !reflect.DeepEqual(y.Kids, []api.Term{{Name: "y", At: 4}}) {
		t.Errorf("now %v, %v", x, y)
	}
}

// scrawl writes something else into every list of a.
func scrawl(a api.Type) {
	for n := range a.Kids {
		scrawl(a.Kids[n])
		a.Kids[n] = of(99)
	}
}

// R3: what is written into a Meet is in nothing that was handed in, in no later answer, and in no other part of it.
func TestMeetsShareNothing(t *testing.T) {
	part, open := typed("int -> bool + ?"), unknown()
	both := pair(part, part)
	for _, x := range [][2]api.Type{{part, open}, {open, part}, {part, part}, {both, open}, {open, both}, {both, pair(open, open)}, {pair(open, part), pair(part, open)}} {
		want, ok := order.Meet(x[0], x[1])
		m, _ := order.Meet(x[0], x[1])
		scrawl(m)
		if again, _ := order.Meet(x[0], x[1]); !ok || !same(again, want) || !same(part, typed("int -> bool + ?")) {
			t.Errorf("Meet(%s, %s) is now %s, %s was handed in", short(x[0]), short(x[1]), short(again), short(part))
		}
	}
	m, _ := order.Meet(pair(part, open), pair(open, part))
	scrawl(m.Kids[0])
	if !same(m.Kids[1], part) {
		t.Errorf("the other part is now %s", short(m.Kids[1]))
	}
	// What is added at the end of a list is in no other one, either.
	m, _ = order.Meet(both, open)
	_, _ = append(m.Kids[0].Kids, of(97)), append(m.Kids, of(96))
	if !same(m, both) {
		t.Errorf("now %s", short(m))
	}
}

// R2: how many goroutines work changes no answer.
func TestManyAtATime(t *testing.T) {
	deep, wide, none := down(api.Fun, 200, true, integer()), full(api.Sum, 13, unknown()), full(api.Pair, 40, unknown())
	a, b := term(`\x:? -> int.x(1)`), term(`\x:bool -> int.x(1)`)
	done := make(chan error)
	for range 8 {
		go func() {
			var all error
			for range 50 {
				m, ok := order.Meet(wide, unknown())
				if !ok || !order.Less(wide, m) || !order.Less(unknown(), deep) || order.Less(deep, wide) || order.Less(unknown(), none) || !order.Terms(a, b) || order.Terms(b, a) {
					all = errors.New("another answer")
				}
			}
			done <- all
		}()
	}
	for range 8 {
		if err := <-done; err != nil {
			t.Error(err)
		}
	}
}
