package coerce_test

import (
	"math"
	"slices"
	"testing"

	"lychgate/api"
	"lychgate/coerce"
	"lychgate/samples"
	"lychgate/types"
)

// P15.1 to P15.5: the chapter's examples.
func TestExamples(t *testing.T) {
	for _, x := range []struct {
		from, to string
		label    int
		text     string
	}{
		{"int", "?", 3, "id { int } ; { int } !"},
		{"?", "int", -3, "{ int } ? -3 ; id { int }"},
		{"int -> ?", "? -> bool", 2, "( { int } ? -2 ; id { int } -> { bool } ? 2 ; id { bool } )"},
	} {
		c, e := coerce.Of(typed(x.from), typed(x.to), x.label)
		if e != api.OK {
			t.Error(e)
		}
		reads(t, c, x.text)
	}
	makesNone(t, integer(), boolean(), 1, api.ErrCoerce)
	makesNone(t, integer(), unknown(), 0, api.ErrCoerce)
	goes(t, seq(in(integer()), out(boolean(), 1)), integer(), boolean())
	refuses(t, seq(in(integer()), in(integer())), api.ErrCoerce)
	refuses(t, fail(unknown(), integer(), 1), api.ErrCoerce)
	c, _ := coerce.Of(typed("? -> int"), unknown(), 1)
	measures(t, c, 5, 2)
}

// P15.1: what goes nowhere.
func TestOfAlike(t *testing.T) {
	for _, text := range []string{"?", "int", "bool"} {
		for _, label := range []int{1, -1, 77, 1 << 31, -1 << 31} {
			makes(t, typed(text), typed(text), label, id(typed(text)))
		}
	}
	makes(t, typed("int -> bool"), typed("int -> bool"), 1, co("( id { int } -> id { bool } )"))
	makes(t, typed("? * int"), typed("? * int"), 1, co("( id { ? } * id { int } )"))
	makes(t, typed("bool + (? -> int)"), typed("bool + (? -> int)"), -1, co("( id { bool } + ( id { ? } -> id { int } ) )"))
}

// P15.1: into and out of what is unknown; grounds, and what is more than one.
func TestOfUnknown(t *testing.T) {
	for text, want := range map[string][2]string{
		"int":                {"id { int } ; { int } !", "{ int } ? 5 ; id { int }"},
		"bool":               {"id { bool } ; { bool } !", "{ bool } ? 5 ; id { bool }"},
		"? -> ?":             {"( id { ? } -> id { ? } ) ; { ? -> ? } !", "{ ? -> ? } ? 5 ; ( id { ? } -> id { ? } )"},
		"? * ?":              {"( id { ? } * id { ? } ) ; { ? * ? } !", "{ ? * ? } ? 5 ; ( id { ? } * id { ? } )"},
		"? + ?":              {"( id { ? } + id { ? } ) ; { ? + ? } !", "{ ? + ? } ? 5 ; ( id { ? } + id { ? } )"},
		"int -> bool":        {"( { int } ? -5 ; id { int } -> id { bool } ; { bool } ! ) ; { ? -> ? } !", "{ ? -> ? } ? 5 ; ( id { int } ; { int } ! -> { bool } ? 5 ; id { bool } )"},
		"int * bool":         {"( id { int } ; { int } ! * id { bool } ; { bool } ! ) ; { ? * ? } !", "{ ? * ? } ? 5 ; ( { int } ? 5 ; id { int } * { bool } ? 5 ; id { bool } )"},
		"bool + ?":           {"( id { bool } ; { bool } ! + id { ? } ) ; { ? + ? } !", "{ ? + ? } ? 5 ; ( { bool } ? 5 ; id { bool } + id { ? } )"},
		"(int -> int) -> ?":  {"( { ? -> ? } ? -5 ; ( id { int } ; { int } ! -> { int } ? -5 ; id { int } ) -> id { ? } ) ; { ? -> ? } !", "{ ? -> ? } ? 5 ; ( ( { int } ? 5 ; id { int } -> id { int } ; { int } ! ) ; { ? -> ? } ! -> id { ? } )"},
		"int * (bool -> ?)":  {"( id { int } ; { int } ! * ( { bool } ? -5 ; id { bool } -> id { ? } ) ; { ? -> ? } ! ) ; { ? * ? } !", "{ ? * ? } ? 5 ; ( { int } ? 5 ; id { int } * { ? -> ? } ? 5 ; ( id { bool } ; { bool } ! -> id { ? } ) )"},
		"? + (? * (? -> ?))": {"( id { ? } + ( id { ? } * ( id { ? } -> id { ? } ) ; { ? -> ? } ! ) ; { ? * ? } ! ) ; { ? + ? } !", "{ ? + ? } ? 5 ; ( id { ? } + { ? * ? } ? 5 ; ( id { ? } * { ? -> ? } ? 5 ; ( id { ? } -> id { ? } ) ) )"},
	} {
		makes(t, typed(text), unknown(), 5, co(want[0]))
		makes(t, unknown(), typed(text), 5, co(want[1]))
	}
}

// P15.1: two types with one constructor; arguments go the other way, and have the other side.
func TestOfTwoParts(t *testing.T) {
	makes(t, typed("? -> int"), typed("int -> ?"), 2, co("( id { int } ; { int } ! -> id { int } ; { int } ! )"))
	makes(t, typed("int -> ?"), typed("? -> bool"), -2, co("( { int } ? 2 ; id { int } -> { bool } ? -2 ; id { bool } )"))
	makes(t, typed("? * int"), typed("bool * ?"), 2, co("( { bool } ? 2 ; id { bool } * id { int } ; { int } ! )"))
	makes(t, typed("int + ?"), typed("? + bool"), -2, co("( id { int } ; { int } ! + { bool } ? -2 ; id { bool } )"))
	makes(t, typed("(? -> int) -> int"), typed("(int -> int) -> int"), 3, co("( ( { int } ? 3 ; id { int } -> id { int } ) -> id { int } )"))
	makes(t, typed("((int -> ?) -> ?) -> ?"), typed("((? -> ?) -> ?) -> ?"), 3, co("( ( ( { int } ? -3 ; id { int } -> id { ? } ) -> id { ? } ) -> id { ? } )"))
	makes(t, typed("(? -> ?) * (? + int)"), typed("(int -> bool) * (bool + ?)"), 9, co("( ( id { int } ; { int } ! -> { bool } ? 9 ; id { bool } ) * ( { bool } ? 9 ; id { bool } + id { int } ; { int } ! ) )"))
	makes(t, typed("? -> ? * int"), typed("? -> int * ?"), -9, co("( id { ? } -> ( { int } ? -9 ; id { int } * id { int } ; { int } ! ) )"))
}

// P15.1: labels, up to the last ones; their magnitude and their side.
func TestOfLabels(t *testing.T) {
	for _, n := range []int{1, 2, 1<<31 - 1, 1 << 31} {
		makes(t, unknown(), integer(), n, seq(api.Co{Kind: api.CoOut, Type: integer(), Label: n}, id(integer())))
		makes(t, unknown(), integer(), -n, seq(api.Co{Kind: api.CoOut, Type: integer(), Label: n, Neg: true}, id(integer())))
		makes(t, typed("int -> ?"), typed("? -> ?"), n, node(api.CoFun, seq(api.Co{Kind: api.CoOut, Type: integer(), Label: n, Neg: true}, id(integer())), id(unknown())))
	}
	for _, n := range []int{0, 1<<31 + 1, -1<<31 - 1, 1 << 32, math.MaxInt, math.MinInt, math.MinInt + 1} {
		for _, from := range []string{"?", "int", "? -> int"} {
			for _, to := range []string{"?", "int", "? -> int"} {
				makesNone(t, typed(from), typed(to), n, api.ErrCoerce)
			}
		}
	}
}

// P15.1: types that do not agree, wherever they do not.
func TestOfTypesThatDoNotAgree(t *testing.T) {
	for _, x := range [][2]string{
		{"int", "bool"}, {"bool", "int"}, {"int", "? -> ?"}, {"? * ?", "? + ?"}, {"? -> ?", "? * ?"}, {"? + ?", "bool"},
		{"int -> ?", "bool -> ?"}, {"? -> int", "? -> bool"}, {"? * int", "? * (? + ?)"}, {"int + ?", "(? -> ?) + ?"}, {"? -> ? -> int", "? -> ? -> bool"}, {"(? * int) * ?", "(? * bool) * ?"},
	} {
		for _, label := range []int{1, -1, 0} {
			makesNone(t, typed(x[0]), typed(x[1]), label, api.ErrCoerce)
		}
	}
}

// P15.1, R10: what is no type is told of ahead of a label that is none, and of types that do not agree; the first one's error is told.
func TestOfNoTypes(t *testing.T) {
	integer, fun := integer(), of(api.Fun)
	deep, great := chain(api.Pair, 201, true, integer), samples.Endless(api.Sum)
	none := map[api.Errno][]api.Type{
		api.ErrType:    {fun, of(6), of(-1), of(api.Int, integer), of(api.Pair, integer), of(api.Sum, integer, fun), chain(api.Fun, 200, false, fun)},
		api.ErrTooDeep: {deep, chain(api.Fun, 4000, true, integer)},
		api.ErrTooBig:  {great, balanced(api.Fun, 4097, integer), samples.Full(api.Pair, 60, integer)},
	}
	for code, all := range none {
		for _, a := range all {
			for _, label := range []int{1, -1, 0, math.MinInt} {
				for _, b := range []api.Type{unknown(), integer, typed("? -> ?")} {
					makesNone(t, a, b, label, code)
					makesNone(t, b, a, label, code)
				}
				makesNone(t, a, a, label, code)
			}
			makesNone(t, a, fun, 1, code)
			makesNone(t, a, deep, 1, code)
			makesNone(t, a, great, 1, code)
		}
	}
}

// P15.1: coercions that are as great and as deep as can be, and one more.
func TestOfUpToTheBounds(t *testing.T) {
	tell := func(from, to api.Type, code api.Errno) {
		t.Helper()
		if code != api.OK {
			makesNone(t, from, to, 1, code)
		} else if c, e := coerce.Of(from, to, 1); e != api.OK {
			t.Errorf("Of(%s, %s, 1): %v", short(from), short(to), e)
		} else {
			goes(t, c, from, to)
		}
	}
	leaves := func(n int) api.Type { return balanced(api.Pair, n, integer()) }
	tell(leaves(2731), leaves(2731), api.OK) // 8192 nodes: 3 a leaf, less 1
	tell(leaves(2732), leaves(2732), api.ErrTooBig)
	// Into what is unknown, 11 a leaf, less 6.
	pair := func(a, b api.Type) api.Type { return of(api.Pair, a, b) }
	tell(leaves(745), unknown(), api.OK)
	tell(leaves(746), unknown(), api.ErrTooBig)
	tell(pair(leaves(700), leaves(166)), pair(unknown(), leaves(166)), api.OK) // 8192
	tell(pair(unknown(), leaves(166)), pair(leaves(700), leaves(166)), api.OK)
	tell(pair(leaves(699), leaves(170)), pair(unknown(), leaves(170)), api.ErrTooBig) // 8193
	for _, kind := range []int8{api.Fun, api.Pair, api.Sum} {
		for _, right := range []bool{true, false} {
			down := func(depth int) api.Type { return chain(kind, depth, right, integer()) }
			tell(down(199), down(199), api.OK)
			tell(down(200), down(200), api.ErrTooDeep)
			tell(down(99), unknown(), api.OK) // two deep for each one, and one
			tell(unknown(), down(99), api.OK)
			tell(down(100), unknown(), api.ErrTooDeep)
			tell(unknown(), down(100), api.ErrTooDeep)
			tell(of(kind, integer(), down(99)), of(kind, integer(), unknown()), api.OK)
			tell(of(kind, down(99), integer()), of(kind, unknown(), integer()), api.OK)
			tell(of(kind, integer(), down(100)), of(kind, integer(), unknown()), api.ErrTooDeep)
		}
	}
	deepAndGreat := pair(chain(api.Fun, 199, true, integer()), leaves(3000))
	tell(deepAndGreat, deepAndGreat, api.ErrTooBig) // ahead of ErrTooDeep
	tell(deepAndGreat, unknown(), api.ErrTooBig)
}

// P15.2: each kind, from where to where it goes.
func TestCheck(t *testing.T) {
	for text, want := range map[string][2]string{
		"id { ? }": {"?", "?"}, "id { int }": {"int", "int"}, "id { int -> ? * bool }": {"int -> ? * bool", "int -> ? * bool"},
		"fail { int } { bool } 3": {"int", "bool"}, "fail { int } { int } -3": {"int", "int"}, "fail { ? -> ? } { ? } 1": {"? -> ?", "?"}, "fail { int * ? } { bool + int } 2147483648": {"int * ?", "bool + int"},
		"{ int } !": {"int", "?"}, "{ bool } !": {"bool", "?"}, "{ ? -> ? } !": {"? -> ?", "?"}, "{ ? * ? } !": {"? * ?", "?"}, "{ ? + ? } !": {"? + ?", "?"},
		"{ int } ? 1": {"?", "int"}, "{ bool } ? -1": {"?", "bool"}, "{ ? -> ? } ? 2147483648": {"?", "? -> ?"}, "{ ? * ? } ? -2147483648": {"?", "? * ?"}, "{ ? + ? } ? 7": {"?", "? + ?"},
		"( { int } ! -> { bool } ! )": {"? -> bool", "int -> ?"}, "( { int } ! * { bool } ! )": {"int * bool", "? * ?"}, "( { int } ! + { bool } ! )": {"int + bool", "? + ?"},
		"( { int } ? 1 -> id { int } )": {"int -> int", "? -> int"}, "( { int } ? 1 * id { int } )": {"? * int", "int * int"}, "( { int } ? 1 + fail { int } { bool } 1 )": {"? + int", "int + bool"},
		"( ( { int } ! -> { bool } ! ) -> ( { int } ! -> { bool } ! ) )": {"(int -> ?) -> ? -> bool", "(? -> bool) -> int -> ?"},
		"{ int } ! ; { bool } ? 1":                                       {"int", "bool"}, "id { int } ; id { int } ; { int } !": {"int", "?"}, "{ int } ? 1 ; { int } ! ; { bool } ? 2 ; fail { bool } { int * int } 4": {"?", "int * int"},
		"( id { ? } -> { int } ? 1 ) ; ( { int } ! -> { int } ! ) ; { ? } !": {"", ""}, "( id { ? } -> { int } ? 1 ) ; ( { int } ! -> { int } ! ) ; id { int -> ? }": {"? -> ?", "int -> ?"},
		"( { int } ! ; { bool } ? 1 -> { int } ? 2 ; { int } ! ; { bool } ? 3 )": {"bool -> ?", "int -> bool"},
	} {
		if want[0] == "" {
			refuses(t, co(text), api.ErrCoerce)
			continue
		}
		goes(t, co(text), typed(want[0]), typed(want[1]))
	}
	a, b, c := id(integer()), in(integer()), out(boolean(), 1)
	goes(t, seq(seq(a, b), c), integer(), boolean())
	goes(t, seq(a, seq(b, c)), integer(), boolean())
}

// P15.2: where no rule holds, wherever that is.
func TestCheckOfNone(t *testing.T) {
	for code, all := range samples.NoCos() {
		for _, c := range all {
			refuses(t, c, code)
			for _, around := range samples.CoAround(c) {
				refuses(t, around, code)
			}
		}
	}
}

// P15.2: each kind, with as many kids as it has, and with others.
func TestCheckEveryKindWithUpToThreeKids(t *testing.T) {
	for kind := math.MinInt8; kind <= math.MaxInt8; kind++ {
		for kids := range 4 {
			c := api.Co{Kind: int8(kind), Type: integer(), Label: 1}
			for range kids {
				c.Kids = append(c.Kids, id(boolean()))
			}
			if kind >= api.CoId && kind <= api.CoOut && kids == 0 || kind >= api.CoFun && kind <= api.CoSeq && kids == 2 {
				if _, _, e := coerce.Check(c); e != api.OK {
					t.Errorf("%d, with %d kids: %v", kind, kids, e)
				}
				continue
			}
			refuses(t, c, api.ErrCoerce)
		}
	}
}

// P15.2: two that are put one behind the other meet in one type, not in two that agree.
func TestCheckWhereTheyMeet(t *testing.T) {
	all := []string{"?", "int", "bool", "? -> ?", "int -> ?", "? -> int", "? * ?", "? + ?", "int * bool", "bool * int"}
	for _, a := range all {
		for _, b := range all {
			first, second := fail(integer(), typed(a), 1), id(typed(b))
			if a == b {
				goes(t, seq(first, second), integer(), typed(b))
			} else {
				refuses(t, seq(first, second), api.ErrCoerce)
			}
		}
	}
}

// P15.2: as great as can be, and one node more: in coercions, and in types. Types that do not count are not counted.
func TestCheckUpToTheNodes(t *testing.T) {
	great := balanced(api.Sum, 4096, integer()) // 8191 nodes
	goes(t, id(great), great, great)
	refuses(t, id(balanced(api.Sum, 4097, integer())), api.ErrTooBig)
	half := balanced(api.Fun, 2048, unknown()) // 4095
	goes(t, fail(half, balanced(api.Fun, 2048, boolean()), 1), half, balanced(api.Fun, 2048, boolean()))
	refuses(t, fail(half, balanced(api.Fun, 2049, boolean()), 1), api.ErrTooBig)
	refuses(t, fail(balanced(api.Fun, 2049, boolean()), half, 1), api.ErrTooBig)
	goes(t, node(api.CoPair, id(half), id(balanced(api.Fun, 2047, unknown()))), of(api.Pair, half, balanced(api.Fun, 2047, unknown())), of(api.Pair, half, balanced(api.Fun, 2047, unknown())))
	for _, kind := range []int8{api.CoFun, api.CoPair, api.CoSum, api.CoSeq} {
		if _, _, e := coerce.Check(tree(kind, 2731, id(integer()))); e != api.OK { // 8192 nodes
			t.Error(kind, e)
		}
		refuses(t, tree(kind, 2732, id(integer())), api.ErrTooBig)
	}
	out := out(typed("? -> ?"), 3) // 4 nodes
	c := node(api.CoPair, tree(api.CoSum, 1638, out), id(integer()))
	if _, _, e := coerce.Check(c); e != api.OK { // 5 * 1638 - 1 + 1 + 2: 8192
		t.Error(e)
	}
	c.Kids[1] = node(api.CoPair, id(integer()), id(integer()))
	refuses(t, c, api.ErrTooBig)
	littered := samples.CoLittered(tree(api.CoFun, 2731, id(integer())))
	measures(t, littered, 2731+2730, 13)
}

// tree is so many leaves, two and two in a coercion of that kind, no deeper than must be.
func tree(kind int8, leaves int, leaf api.Co) api.Co {
	if leaves == 1 {
		return leaf
	}
	return node(kind, tree(kind, leaves-leaves/2, leaf), tree(kind, leaves/2, leaf))
}

// P15.2: as deep as can be, and one deeper: each kind around each, and types.
func TestCheckUpToTheDepth(t *testing.T) {
	for _, left := range []bool{true, false} {
		for _, x := range []struct {
			c    api.Co
			deep int
		}{
			{id(integer()), 2}, {in(typed("? -> ?")), 3}, {out(typed("? + ?"), 1), 3}, {id(chain(api.Pair, 77, left, integer())), 78},
			{fail(integer(), chain(api.Pair, 9, left, integer()), 1), 10}, {fail(chain(api.Sum, 150, left, integer()), integer(), 1), 151},
		} {
			for _, kind := range []int8{api.CoFun, api.CoPair, api.CoSum} {
				deepest := within(x.c, kind, api.MaxDepth-x.deep, left)
				if _, _, e := coerce.Check(deepest); e != api.OK {
					t.Error(kind, left, x.deep, e)
				}
				refuses(t, within(deepest, kind, 1, left), api.ErrTooDeep)
				refuses(t, within(deepest, kind, 2, left), api.ErrTooDeep)
			}
		}
		row := fail(integer(), boolean(), 1) // 2 deep
		for range 198 {
			if left {
				row = seq(row, id(boolean()))
			} else {
				row = seq(id(integer()), row)
			}
		}
		goes(t, row, integer(), boolean())
		refuses(t, seq(id(integer()), row), api.ErrTooDeep)
		refuses(t, seq(row, id(boolean())), api.ErrTooDeep)
	}
	deep := chain(api.Fun, 199, true, integer())
	goes(t, id(deep), deep, deep)
	goes(t, fail(deep, integer(), 1), deep, integer())
	goes(t, fail(integer(), deep, 1), integer(), deep)
	goes(t, node(api.CoFun, in(integer()), id(chain(api.Sum, 198, true, integer()))), of(api.Fun, unknown(), chain(api.Sum, 198, true, integer())), of(api.Fun, integer(), chain(api.Sum, 198, true, integer())))
}

// within is c with so many of that kind around it.
func within(c api.Co, kind int8, n int, left bool) api.Co {
	for range n {
		if left {
			c = node(kind, c, id(boolean()))
		} else {
			c = node(kind, id(boolean()), c)
		}
	}
	return c
}

// P15.2, R5: what is too great is told ahead of what is too deep, that ahead of a rule that does not hold.
func TestCheckWhichErrorFirst(t *testing.T) {
	bad, great, deep := api.Co{Kind: 9}, id(samples.Endless(api.Fun)), id(chain(api.Fun, 300, true, integer()))
	refuses(t, node(api.CoPair, bad, great), api.ErrTooBig)
	refuses(t, node(api.CoPair, bad, deep), api.ErrTooDeep)
	refuses(t, node(api.CoPair, deep, great), api.ErrTooBig)
	refuses(t, node(api.CoPair, great, deep), api.ErrTooBig)
	refuses(t, node(99, bad, deep, great), api.ErrTooBig)
	refuses(t, node(99, bad, deep), api.ErrTooDeep)
	refuses(t, api.Co{Kind: api.CoOut, Type: chain(api.Fun, 300, true, integer())}, api.ErrTooDeep)
}

// P15.2: what is of a kind that is none has no types.
func TestCheckTypesOfNoKind(t *testing.T) {
	for _, kind := range []int8{-128, -1, 8, 127} {
		refuses(t, api.Co{Kind: kind, Type: samples.Endless(api.Fun), To: samples.Endless(api.Sum)}, api.ErrCoerce)
	}
}

// P15.3.
func TestSizeAndHeight(t *testing.T) {
	for text, want := range map[string][2]int{
		"id { ? }": {1, 1}, "id { int }": {1, 1}, "id { int -> ? * bool }": {1, 1}, "fail { int } { bool } 3": {1, 1}, "fail { ? -> ? } { int * (int * int) } 3": {1, 1},
		"{ int } !": {1, 1}, "{ bool } !": {1, 1}, "{ ? -> ? } !": {1, 2}, "{ ? * ? } !": {1, 2}, "{ ? + ? } !": {1, 2}, "{ int } ? 3": {1, 1}, "{ ? -> ? } ? 3": {1, 2}, "{ ? * ? } ? 3": {1, 2}, "{ ? + ? } ? -3": {1, 2},
		"( id { ? } -> id { ? } )": {3, 2}, "( id { ? } * id { ? } )": {3, 2}, "( id { ? } + id { ? } )": {3, 2}, "id { int } ; { int } !": {2, 1}, "id { int } ; id { int } ; id { int }": {3, 1},
		"( id { ? } -> { ? -> ? } ! )": {3, 3}, "( { ? * ? } ! -> id { ? } )": {3, 3}, "( id { ? } * { ? -> ? } ? 1 )": {3, 3}, "( { ? -> ? } ! + id { ? } )": {3, 3}, "( ( id { int } * id { int } ) + id { ? } )": {5, 3}, "( id { ? } + ( id { int } * id { int } ) )": {5, 3},
		"( id { ? } -> id { ? } ) ; { ? -> ? } !": {4, 2}, "{ ? -> ? } ? 1 ; ( id { ? } -> id { ? } )": {4, 2}, "( id { ? } -> { ? -> ? } ? 1 ) ; id { ? -> ? -> ? }": {4, 3}, "id { ? -> ? -> ? } ; ( id { ? } -> { ? -> ? } ! )": {4, 3},
		"( id { int } ; { int } ! -> { ? -> ? } ! ; { int } ? 2 )": {5, 3},
	} {
		measures(t, co(text), want[0], want[1])
	}
	for _, kind := range []int8{api.CoFun, api.CoPair, api.CoSum} {
		measures(t, tree(kind, 1024, in(typed("? -> ?"))), 1024+1023, 12)
	}
	measures(t, tree(api.CoSeq, 2731, id(integer())), 2731, 1)
}

// P15.4: all that counts makes two; what does not count doesn't.
func TestSame(t *testing.T) {
	pieces := []api.Co{
		id(unknown()), id(integer()), id(boolean()), id(typed("? -> ?")), id(typed("? * ?")), id(typed("? -> int")), in(integer()), in(boolean()), in(typed("? -> ?")), in(typed("? * ?")), in(typed("? + ?")),
		fail(integer(), boolean(), 1), fail(integer(), boolean(), -1), fail(integer(), boolean(), 2), fail(integer(), integer(), 1), fail(boolean(), boolean(), 1), fail(boolean(), integer(), 1), fail(integer(), unknown(), 1),
		out(integer(), 1), out(integer(), -1), out(integer(), 2), out(boolean(), 1), out(typed("? -> ?"), 1), out(typed("? * ?"), 1),
	}
	all := slices.Clone(pieces)
	for _, kind := range []int8{api.CoFun, api.CoPair, api.CoSum} {
		for _, s := range pieces {
			all = append(all, node(kind, s, in(integer())), node(kind, id(integer()), s))
		}
	}
	a, b, c, d := id(integer()), in(integer()), out(boolean(), 1), id(boolean())
	all = append(all, seq(a, b), seq(c, d), seq(b, c), seq(a, seq(b, seq(c, d))), seq(seq(seq(a, b), c), d), seq(seq(a, b), seq(c, d)), seq(a, seq(seq(b, c), d)))
	for n, c := range all {
		for m, d := range all {
			for _, e := range []api.Co{d, samples.CoLittered(d)} {
				if same := exactly(c, d); same != (n == m) && n < len(pieces) || coerce.Same(c, e) != same || coerce.Same(e, c) != same {
					t.Errorf("%s, %s: the same: %v; want %v", shortOf(c), shortOf(d), coerce.Same(c, e), same)
				}
			}
		}
	}
	empty := api.Co{Kind: api.CoId, Type: api.Type{Kind: api.Int, Kids: []api.Type{}}, Kids: []api.Co{}}
	if !coerce.Same(empty, id(integer())) || !coerce.Same(id(integer()), empty) { // R6
		t.Error("an empty list is another one")
	}
}

// P15.5.
func TestText(t *testing.T) {
	for _, text := range []string{
		"id { ? }", "id { int -> ? * bool }", "id { (int -> int) + int + (int + ?) * int }", "fail { int } { bool } 3", "fail { ? -> int } { ? } -2147483648",
		"{ int } !", "{ ? -> ? } !", "{ ? * ? } ? 12", "{ ? + ? } ? -2147483648",
		"( id { ? } -> id { bool } )", "( id { ? } * id { bool } )", "( id { ? } + id { bool } )", "( ( id { int } -> { int } ! ) * ( { int } ? 1 + fail { int } { int } 2 ) )",
		"id { int } ; { int } !", "( id { int } ; { int } ! -> { int } ? 3 ; id { int } ) ; id { int -> int }",
	} {
		reads(t, co(text), text)
		reads(t, samples.CoLittered(co(text)), text)
	}
	a, b, c, d := id(integer()), in(integer()), out(boolean(), 1), id(boolean())
	for _, x := range []api.Co{seq(a, seq(b, seq(c, d))), seq(seq(seq(a, b), c), d), seq(seq(a, b), seq(c, d)), seq(a, seq(seq(b, c), d))} {
		reads(t, x, "id { int } ; { int } ! ; { bool } ? 1 ; id { bool }")
	}
}

// P15.5: a text as long as can be, and one byte longer.
func TestTextUpToTheBound(t *testing.T) {
	const pieces, longest = 1850, 33 + 3 // of a piece with a label of ten digits, and a semicolon with two blanks
	for _, bytes := range []int{pieces*longest - 3 - 9*pieces, api.MaxText - 1, api.MaxText, api.MaxText + 1, pieces*longest - 3} {
		var row []api.Co
		for shorter := pieces*longest - 3 - bytes; len(row) < pieces; shorter -= min(shorter, 9) {
			row = append(row, fail(boolean(), boolean(), labelOf(10-min(shorter, 9))))
		}
		c := inARow(row)
		if _, _, e := coerce.Check(c); e != api.OK {
			t.Fatal("the test's own coercion:", e)
		}
		want := bytes
		if bytes > api.MaxText {
			want = 0
		}
		if got := len(coerce.Text(c)); got != want {
			t.Errorf("%d bytes; want %d", got, want)
		}
		measures(t, c, pieces, 1)
	}
}

// labelOf is a label of so many digits.
func labelOf(digits int) int {
	n := 1
	for range digits - 1 {
		n *= 10
	}
	return n
}

// inARow is all of them, one behind the other, no deeper than must be.
func inARow(l []api.Co) api.Co {
	if len(l) == 1 {
		return l[0]
	}
	return seq(inARow(l[:len(l)/2]), inARow(l[len(l)/2:]))
}

// R3: what is handed in stays as it is, with the room behind the ends of its lists.
func TestArgumentsStay(t *testing.T) {
	room := []api.Type{integer(), unknown(), of(77), of(78)}
	empty := api.Type{Kind: api.Int, Kids: room[2:2]}
	parts := []api.Type{of(api.Sum, room[:2]...), empty, of(79)}
	whole := of(api.Pair, parts[:2]...)
	c, e := coerce.Of(whole, typed("(? + bool) * ?"), 7)
	makes(t, whole, typed("(? + bool) * ?"), 7, co("( ( id { int } ; { int } ! + { bool } ? 7 ; id { bool } ) * id { int } ; { int } ! )"))
	makes(t, unknown(), whole, 7, co("{ ? * ? } ? 7 ; ( { ? + ? } ? 7 ; ( { int } ? 7 ; id { int } + id { ? } ) * { int } ? 7 ; id { int } )"))
	kids := []api.Co{id(whole), c, fail(empty, whole, 3), {Kind: 80}}
	all := node(api.CoPair, kids[:2]...)
	goes(t, all, of(api.Pair, whole, whole), of(api.Pair, whole, typed("(? + bool) * ?")))
	if !coerce.Same(all, all) || coerce.Size(all) != 10 || coerce.Height(all) != 4 || coerce.Text(kids[2]) != "fail { int } { (int + ?) * int } 3" || coerce.Text(all) == "" || e != api.OK {
		t.Error(coerce.Size(all), coerce.Height(all), coerce.Text(all), e)
	}
	if !types.Same(room[0], integer()) || room[1].Kind != api.Unknown || room[2].Kind != 77 || room[3].Kind != 78 || parts[0].Kind != api.Sum || parts[1].Kind != api.Int || parts[2].Kind != 79 || kids[3].Kind != 80 || kids[0].Kind != api.CoId || kids[1].Kind != api.CoPair {
		t.Errorf("now %v, %v, %v", room, parts, kids)
	}
}

// R3: an answer shares no list with what was handed in, nor with itself, nor with another answer.
func TestAnswersShareNothing(t *testing.T) {
	pair := typed("(int -> ?) * (? + bool)")
	empty := api.Type{Kind: api.Int, Kids: make([]api.Type, 0, 4)}
	for _, c := range []api.Co{id(pair), fail(pair, pair, 1), node(api.CoPair, id(pair), id(pair)), node(api.CoFun, fail(pair, pair, 1), fail(pair, pair, 1)), seq(id(pair), id(pair)), in(typed("? -> ?")), out(typed("? + ?"), 1), node(api.CoSum, id(empty), id(empty))} {
		from, to, _ := coerce.Check(c)
		again, toAgain, _ := coerce.Check(c)
		if samples.Shares(slices.Concat(samples.Lists(from), samples.Lists(to)), slices.Concat(samples.Lists(again), samples.Lists(toAgain), samples.CoTypeLists(c))) {
			t.Errorf("%s: a list is shared", shortOf(c))
		}
		for _, list := range slices.Concat(samples.Lists(from), samples.Lists(to)) {
			list.Kind = 99
		}
		goes(t, c, again, toAgain)
	}
	for _, x := range [][2]api.Type{{pair, pair}, {pair, unknown()}, {unknown(), pair}, {pair, typed("? * (int + ?)")}, {typed("? -> ?"), unknown()}, {unknown(), typed("? * ?")}} {
		c, _ := coerce.Of(x[0], x[1], 1)
		again, _ := coerce.Of(x[0], x[1], 1)
		if samples.Shares(samples.CoLists(c), samples.CoLists(again)) || samples.Shares(samples.CoTypeLists(c), slices.Concat(samples.CoTypeLists(again), samples.Lists(x[0]), samples.Lists(x[1]))) {
			t.Errorf("Of(%s, %s): a list is shared", short(x[0]), short(x[1]))
		}
		for _, list := range samples.CoTypeLists(c) {
			list.Kind = 99
		}
		for _, list := range samples.CoLists(c) {
			*list = api.Co{Kind: 99}
		}
		makes(t, x[0], x[1], 1, again)
	}
	c, _ := coerce.Of(empty, empty, 1)
	from, to, _ := coerce.Check(id(empty))
	if cap(c.Type.Kids) > 0 || cap(from.Kids) > 0 || cap(to.Kids) > 0 {
		t.Error("the room behind the end of an empty list is shared")
	}
}

// R2: how many goroutines work changes no answer, and nothing is left behind.
func TestManyAtATime(t *testing.T) {
	from, to, none := typed("(int -> ?) * (? + bool)"), typed("(? -> bool) * (int + ?)"), samples.NoCos()[api.ErrTooBig][0]
	want, _ := coerce.Of(from, to, -3)
	text := coerce.Text(want)
	done := make(chan bool)
	for range 8 {
		go func() {
			same := true
			for range 300 {
				c, e := coerce.Of(from, to, -3)
				a, b, f := coerce.Check(c)
				_, _, code := coerce.Check(none)
				same = same && e == api.OK && f == api.OK && code == api.ErrTooBig && exactly(c, want) && coerce.Same(c, want) && coerce.Text(c) == text
				same = same && types.Same(a, from) && types.Same(b, to) && coerce.Size(c) == 11 && coerce.Height(c) == 3
			}
			done <- same
		}()
	}
	for range 8 {
		if !<-done {
			t.Error("another answer")
		}
	}
}
