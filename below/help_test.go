package below_test

import (
	"fmt"
	"math/rand"
	"testing"

	"lychgate/api"
	"lychgate/below"
	"lychgate/scan"
	"lychgate/types"
)

// An answer is what the three calls tell of two types: below, positively, negatively.
type answer [3]bool

// What they may tell: no other answer comes about (P8.2).
var (
	all      = answer{true, true, true}
	positive = answer{false, true, false}
	negative = answer{false, false, true}
	none     = answer{false, false, false}
)

func asked(a, b api.Type) answer {
	return answer{below.Below(a, b), below.Pos(a, b), below.Neg(a, b)}
}

// tells wants an answer.
func tells(t *testing.T, a, b api.Type, want answer) {
	t.Helper()
	if got := asked(a, b); got != want {
		t.Errorf("%s and %s: %v, want %v", short(a), short(b), got, want)
	}
}

// tellsAll wants the same answer of pairs of texts.
func tellsAll(t *testing.T, want answer, pairs [][2]string) {
	t.Helper()
	for _, x := range pairs {
		tells(t, typed(x[0]), typed(x[1]), want)
	}
}

// typed is the type that a text tells.
func typed(text string) api.Type {
	words, err := scan.All(text)
	if err != nil {
		panic(err)
	}
	a, next, err := types.Read(words, 0)
	if err != nil || words[next].Kind != api.WordEnd {
		panic(text)
	}
	return a
}

// short is what a looks like: its text, or, of one that is none, how it begins.
func short(a api.Type) string {
	text, e := types.Text(a)
	switch e {
	case api.OK:
		return fmt.Sprintf("%.200s", text)
	case api.ErrTooBig:
		return "one too great"
	}
	return fmt.Sprintf("%.200s", fmt.Sprint(a))
}

func of(kind int8, kids ...api.Type) api.Type { return api.Type{Kind: kind, Kids: kids} }

func unknown() api.Type { return of(api.Unknown) }

func integer() api.Type { return of(api.Int) }

func boolean() api.Type { return of(api.Bool) }

// kindsWithParts are the kinds that have two parts.
func kindsWithParts() []int8 { return []int8{api.Fun, api.Pair, api.Sum} }

// wholes are types that are the same but for their innermost part, which is left so many deep, on the left or on the right.
func wholes(kind int8, depth int, right bool, inner ...api.Type) []api.Type {
	l := append([]api.Type(nil), inner...)
	for range depth - 1 {
		for n := range l {
			if right {
				l[n] = of(kind, integer(), l[n])
			} else {
				l[n] = of(kind, l[n], integer())
			}
		}
	}
	return l
}

// full is a type of 2^depth - 1 nodes, whose parts are shared.
func full(kind int8, depth int, atom api.Type) api.Type {
	for range depth - 1 {
		atom = of(kind, atom, atom)
	}
	return atom
}

// endless is a type that lies within itself.
func endless(kind int8) api.Type {
	kids := make([]api.Type, 2)
	kids[0], kids[1] = integer(), of(kind, kids...)
	return kids[1]
}

// noTypes are no types, for all sorts of causes.
func noTypes() []api.Type {
	i, u := integer(), unknown()
	l := []api.Type{of(6), of(-1), of(127), of(-128), of(6, i, i), of(-1, u, u), of(api.Unknown, i), of(api.Unknown, u, u), of(api.Int, i), of(api.Bool, u, u)}
	for _, kind := range kindsWithParts() {
		l = append(l, of(kind), of(kind, u), of(kind, u, u, u), of(kind, of(6), u), of(kind, u, of(kind)), of(kind, of(api.Unknown, u), i))
		l = append(l, full(kind, 14, u), full(kind, 40, i), full(kind, 13, of(9)), endless(kind))
		for _, right := range []bool{false, true} {
			l = append(l, wholes(kind, 201, right, u, i)...)
			l = append(l, wholes(kind, 4097, right, u)...)
			l = append(l, wholes(kind, 200, right, of(7))...)
		}
	}
	return append(l, endless(99), endless(api.Unknown), endless(api.Int))
}

// every are all types up to a depth of these and what is made of them.
func every(depth int, atoms ...api.Type) []api.Type {
	l := append([]api.Type(nil), atoms...)
	if depth == 1 {
		return l
	}
	parts := every(depth-1, atoms...)
	for _, kind := range kindsWithParts() {
		for _, left := range parts {
			for _, right := range parts {
				l = append(l, of(kind, left, right))
			}
		}
	}
	return l
}

// everyType are all types up to a depth.
func everyType(depth int) []api.Type { return every(depth, unknown(), integer(), boolean()) }

// someType is a type that is no deeper than that.
func someType(random *rand.Rand, depth int) api.Type {
	if depth == 1 || random.Intn(3) == 0 {
		return of(int8(random.Intn(3)))
	}
	return of(api.Fun+int8(random.Intn(3)), someType(random, depth-1), someType(random, depth-1))
}

// near is a with a part here and there made unknown, or some other type.
func near(random *rand.Rand, a api.Type) api.Type {
	switch random.Intn(12) {
	case 0:
		return someType(random, 2)
	case 1, 2:
		return unknown()
	}
	return spread(a, func(_ int, kid api.Type) api.Type { return near(random, kid) })
}

// spread is a with each of its parts changed; change is told which part it is.
func spread(a api.Type, change func(int, api.Type) api.Type) api.Type {
	b := of(a.Kind)
	for n, kid := range a.Kids {
		b.Kids = append(b.Kids, change(n, kid))
	}
	return b
}
