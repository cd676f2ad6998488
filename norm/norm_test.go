package norm_test

import (
	"math"
	"slices"
	"testing"

	"lychgate/api"
	"lychgate/coerce"
	"lychgate/norm"
	"lychgate/samples"
	"lychgate/types"
)

// P16.1 to P16.4: the chapter's examples.
func TestExamples(t *testing.T) {
	merges(t, co("id { int } ; { int } !"), co("{ int } ? 3 ; id { int }"), co("id { int }"))
	merges(t, co("id { int } ; { int } !"), co("{ bool } ? 3 ; id { bool }"), co("fail { int } { bool } 3"))
	norms(t, co("{ int } !"), co("id { int } ; { int } !"))
	norms(t, co("id { int -> ? }"), co("( id { int } -> id { ? } )"))
	is(t, co("{ int } !"), false)
	is(t, co("id { ? -> ? }"), false)
	is(t, co("id { ? }"), true)
	c, e := norm.Cast(typed("int -> int"), unknown(), 4)
	if want := co("( { int } ? -4 ; id { int } -> id { int } ; { int } ! ) ; { ? -> ? } !"); e != api.OK || !exactly(c, want) {
		t.Errorf("Cast: %s, %v", shortOf(c), e)
	}
	mergesNone(t, co("id { int }"), co("id { bool }"), api.ErrCoerce)
}

// P16.1: each row of the grammar.
func TestIs(t *testing.T) {
	for _, text := range []string{
		"id { ? }", "id { int }", "id { bool }", "fail { int } { bool } 3", "fail { int -> ? } { ? } -1", "fail { bool } { bool } 2147483648",
		"id { int } ; { int } !", "id { bool } ; { bool } !", "{ int } ? 3 ; id { int }", "{ bool } ? -3 ; id { bool }", "{ int } ? 3 ; id { int } ; { int } !", "{ int } ? 1 ; fail { int } { ? } 2", "{ ? * ? } ? 1 ; fail { ? * ? } { int } -2",
		"( id { ? } -> id { ? } )", "( id { int } * id { ? } )", "( id { bool } + id { ? } )", "( fail { int } { int } 1 -> fail { int } { int } 2 )", "( ( id { ? } * id { int } ) + ( id { bool } -> id { ? } ) )",
		"( id { int } ; { int } ! -> { int } ? 1 ; id { int } )", "( { bool } ? 1 ; id { bool } * id { bool } ; { bool } ! )", "( { bool } ? 1 ; id { bool } ; { bool } ! + { int } ? 1 ; fail { int } { ? } 2 )",
		"( id { ? } -> id { ? } ) ; { ? -> ? } !", "( id { int } ; { int } ! * id { ? } ) ; { ? * ? } !", "{ ? + ? } ? 2 ; ( id { ? } + { int } ? 2 ; id { int } )", "{ ? -> ? } ? 2 ; ( id { ? } -> id { ? } ) ; { ? -> ? } !",
	} {
		is(t, co(text), true)
	}
	for _, text := range []string{
		"id { int -> ? }", "id { ? -> ? }", "id { ? * int }", "id { ? + ? }", "{ int } !", "{ ? * ? } !", "{ bool } ? 1", "{ ? + ? } ? 1",
		"id { int } ; id { int }", "id { ? } ; id { ? }", "( id { ? } -> id { ? } ) ; ( id { ? } -> id { ? } )", "{ int } ? 1 ; { int } !", "{ int } ! ; { int } ? 1", "{ int } ! ; id { ? }", "id { ? } ; { int } ? 1",
		"id { int } ; fail { int } { bool } 1", "fail { int } { bool } 1 ; id { bool }", "fail { int } { int } 1 ; { int } !", "fail { int } { ? } 1 ; { int } ? 1", "fail { int } { ? } 1 ; { int } ? 1 ; id { int }", "fail { int } { int } 1 ; id { int } ; { int } !",
		"id { int } ; id { int } ; { int } !", "id { ? } ; { int } ? 1 ; id { int }", "id { int } ; { int } ! ; id { ? }", "{ int } ? 1 ; id { int } ; id { int }", "{ int } ? 1 ; id { int } ; { int } ! ; id { ? }", "{ int } ? 1 ; id { int } ; fail { int } { int } 1",
		"{ int } ? 1 ; { int } ! ; { bool } ? 2 ; id { bool }", "id { int } ; { int } ! ; { bool } ? 2 ; id { bool }", "{ ? -> ? } ? 1 ; id { ? -> ? }", "id { ? * ? } ; { ? * ? } !", "{ ? -> ? } ? 1 ; id { ? -> ? } ; { ? -> ? } !",
		"( { int } ! -> id { int } )", "( id { int } -> { int } ! )", "( { int } ? 1 * id { int } )", "( id { int } * { int } ? 1 )", "( id { ? -> ? } + id { int } )", "( id { int } + id { ? + ? } )", "( ( id { int } * id { int * int } ) -> id { ? } )",
		"( id { ? } -> { int } ! ; { int } ? 1 ; { int } ! ) ; { ? -> ? } !", "{ ? * ? } ? 1 ; ( { int } ? 1 * id { ? } )", "{ ? * ? } ? 1 ; ( { int } ? 1 ; { int } ! * id { ? } ) ; { ? * ? } !",
	} {
		is(t, co(text), false)
	}
	first := seq(seq(out(integer(), 1), id(integer())), in(integer())) // put together from the left
	is(t, first, false)
	is(t, seq(out(integer(), 1), seq(id(integer()), in(integer()))), true)
	is(t, seq(seq(id(integer()), in(integer())), id(unknown())), false)
}

// P16.1 to P16.3, R10: what is no coercion is in no normal form, has none, and goes with nothing.
func TestNone(t *testing.T) {
	good := id(integer())
	for code, all := range samples.NoCos() {
		for _, c := range all {
			for _, c := range samples.CoAround(c) {
				if norm.Is(c) {
					t.Errorf("Is of a coercion with %v", code)
				}
				normsNone(t, c, code)
				mergesNone(t, c, good, api.ErrCoerce)
				mergesNone(t, good, c, api.ErrCoerce)
				mergesNone(t, c, c, api.ErrCoerce)
			}
		}
	}
}

// P16.2: each kind.
func TestNorm(t *testing.T) {
	for text, want := range map[string]string{
		"id { ? }": "id { ? }", "id { int }": "id { int }", "id { bool }": "id { bool }", "id { ? -> ? }": "( id { ? } -> id { ? } )", "id { int * ? }": "( id { int } * id { ? } )", "id { bool + ? }": "( id { bool } + id { ? } )",
		"id { (int -> ?) * (bool + int) }": "( ( id { int } -> id { ? } ) * ( id { bool } + id { int } ) )",
		"fail { int } { bool } -3":         "fail { int } { bool } -3", "fail { int -> ? } { ? * ? } 3": "fail { int -> ? } { ? * ? } 3",
		"{ int } !": "id { int } ; { int } !", "{ bool } !": "id { bool } ; { bool } !", "{ ? -> ? } !": "( id { ? } -> id { ? } ) ; { ? -> ? } !", "{ ? * ? } !": "( id { ? } * id { ? } ) ; { ? * ? } !", "{ ? + ? } !": "( id { ? } + id { ? } ) ; { ? + ? } !",
		"{ int } ? 1": "{ int } ? 1 ; id { int }", "{ bool } ? -1": "{ bool } ? -1 ; id { bool }", "{ ? -> ? } ? 2": "{ ? -> ? } ? 2 ; ( id { ? } -> id { ? } )", "{ ? * ? } ? 2": "{ ? * ? } ? 2 ; ( id { ? } * id { ? } )", "{ ? + ? } ? -2147483648": "{ ? + ? } ? -2147483648 ; ( id { ? } + id { ? } )",
		"( { int } ! -> id { ? * ? } )": "( id { int } ; { int } ! -> ( id { ? } * id { ? } ) )", "( { int } ? 1 * { int } ? -2 )": "( { int } ? 1 ; id { int } * { int } ? -2 ; id { int } )", "( { int } ! ; { bool } ? 3 + id { int } ; id { int } )": "( fail { int } { bool } 3 + id { int } )",
		"{ int } ! ; { int } ? 1": "id { int }", "{ int } ? 1 ; { int } !": "{ int } ? 1 ; id { int } ; { int } !", "{ int } ! ; { bool } ? -1": "fail { int } { bool } -1", "{ int } ? 1 ; { int } ! ; { bool } ? 2": "{ int } ? 1 ; fail { int } { bool } 2",
		"{ ? * ? } ! ; { ? * ? } ? 1": "( id { ? } * id { ? } )", "id { ? -> ? } ; { ? -> ? } ! ; { ? * ? } ? 3 ; id { ? * ? }": "fail { ? -> ? } { ? * ? } 3", "id { int -> ? } ; ( id { int } -> { int } ? 7 )": "( id { int } -> { int } ? 7 ; id { int } )",
		"{ int } ! ; { bool } ? 1 ; { bool } ! ; { int } ? 2": "fail { int } { int } 1", "fail { int } { bool } 9 ; { bool } ! ; { int } ? 2 ; { int } !": "fail { int } { ? } 9",
		"( { int } ! -> { int } ? 1 ) ; ( { int } ? 2 -> { int } ! )": "( { int } ? 2 ; id { int } ; { int } ! -> { int } ? 1 ; id { int } ; { int } ! )",
		"( { int } ? 1 -> { int } ! ) ; ( { int } ! -> { int } ? 2 )": "( id { int } -> id { int } )",
		"( { int } ! * { bool } ! ) ; ( { int } ? 1 * { int } ? 2 )":  "( id { int } * fail { bool } { int } 2 )",
	} {
		norms(t, co(text), co(want))
	}
	for _, c := range []api.Co{ // put together from the left, from the right, from both
		seq(seq(seq(in(integer()), out(integer(), 1)), in(integer())), out(boolean(), 2)),
		seq(in(integer()), seq(out(integer(), 1), seq(in(integer()), out(boolean(), 2)))),
		seq(seq(in(integer()), out(integer(), 1)), seq(in(integer()), out(boolean(), 2))),
		seq(in(integer()), seq(seq(out(integer(), 1), in(integer())), out(boolean(), 2))),
	} {
		norms(t, c, co("fail { int } { bool } 2"))
	}
}

// P16.3: each row of the table.
func TestThen(t *testing.T) {
	for _, x := range [][3]string{
		// CoId of ?, and anything
		{"id { ? }", "id { ? }", "id { ? }"}, {"id { ? }", "{ int } ? 1 ; id { int }", "{ int } ? 1 ; id { int }"}, {"id { ? }", "{ ? + ? } ? 1 ; fail { ? + ? } { int } 2", "{ ? + ? } ? 1 ; fail { ? + ? } { int } 2"},
		// out, and anything
		{"{ int } ? 1 ; id { int }", "id { int }", "{ int } ? 1 ; id { int }"}, {"{ int } ? 1 ; id { int }", "id { int } ; { int } !", "{ int } ? 1 ; id { int } ; { int } !"}, {"{ int } ? -1 ; id { int } ; { int } !", "id { ? }", "{ int } ? -1 ; id { int } ; { int } !"},
		{"{ int } ? 1 ; id { int } ; { int } !", "{ int } ? 2 ; id { int }", "{ int } ? 1 ; id { int }"}, {"{ int } ? 1 ; id { int } ; { int } !", "{ bool } ? 2 ; id { bool }", "{ int } ? 1 ; fail { int } { bool } 2"}, {"{ int } ? 1 ; fail { int } { ? } 3", "{ bool } ? 2 ; id { bool }", "{ int } ? 1 ; fail { int } { bool } 3"},
		{"{ int } ? 1 ; id { int }", "fail { int } { bool } -5", "{ int } ? 1 ; fail { int } { bool } -5"}, {"{ ? * ? } ? 1 ; ( { int } ? 1 ; id { int } * id { ? } )", "( id { int } * { bool } ? 2 ; id { bool } )", "{ ? * ? } ? 1 ; ( { int } ? 1 ; id { int } * { bool } ? 2 ; id { bool } )"},
		// CoFail, and anything
		{"fail { int } { bool } 1", "id { bool }", "fail { int } { bool } 1"}, {"fail { int } { ? } -1", "id { ? }", "fail { int } { ? } -1"}, {"fail { int } { ? } 1", "{ bool } ? 2 ; id { bool }", "fail { int } { bool } 1"}, {"fail { int * ? } { bool } 1", "fail { bool } { ? -> ? } 2", "fail { int * ? } { ? -> ? } 1"},
		{"fail { int } { ? -> ? } 1", "( id { ? } -> id { ? } ) ; { ? -> ? } !", "fail { int } { ? } 1"}, {"fail { int } { ? -> int } 1", "( id { int } ; { int } ! -> id { int } )", "fail { int } { int -> int } 1"},
		// in, and CoId of ?, or out again
		{"id { int } ; { int } !", "id { ? }", "id { int } ; { int } !"}, {"id { bool } ; { bool } !", "{ bool } ? 1 ; id { bool }", "id { bool }"}, {"id { bool } ; { bool } !", "{ bool } ? 1 ; id { bool } ; { bool } !", "id { bool } ; { bool } !"}, {"id { bool } ; { bool } !", "{ bool } ? 1 ; fail { bool } { int } -7", "fail { bool } { int } -7"},
		{"( id { int } ; { int } ! * id { ? } ) ; { ? * ? } !", "{ ? * ? } ? 4 ; ( { bool } ? -4 ; id { bool } * { int } ? 5 ; id { int } )", "( fail { int } { bool } -4 * { int } ? 5 ; id { int } )"},
		{"( { int } ? 1 ; id { int } -> id { int } ; { int } ! ) ; { ? -> ? } !", "{ ? -> ? } ? 2 ; ( id { int } ; { int } ! -> { int } ? 2 ; id { int } )", "( id { int } -> id { int } )"},
		{"id { int } ; { int } !", "{ bool } ? -2147483648 ; id { bool }", "fail { int } { bool } -2147483648"}, {"id { int } ; { int } !", "{ ? -> ? } ? 2 ; ( id { ? } -> { int } ? 2 ; id { int } )", "fail { int } { ? -> int } 2"}, {"id { int } ; { int } !", "{ bool } ? 2 ; fail { bool } { bool * ? } 3", "fail { int } { bool * ? } 2"}, {"id { int } ; { int } !", "{ bool } ? 2 ; id { bool } ; { bool } !", "fail { int } { ? } 2"},
		{"( id { int } ; { int } ! * id { ? } ) ; { ? * ? } !", "{ ? + ? } ? 2 ; ( id { ? } + id { ? } )", "fail { int * ? } { ? + ? } 2"}, {"( id { ? } -> id { ? } ) ; { ? -> ? } !", "{ ? * ? } ? 2 ; ( id { ? } * id { ? } )", "fail { ? -> ? } { ? * ? } 2"}, {"( id { ? } + id { ? } ) ; { ? + ? } !", "{ ? -> ? } ? 2 ; ( id { ? } -> id { ? } )", "fail { ? + ? } { ? -> ? } 2"},
		// what neither begins nor ends in what is unknown, and CoFail, or in
		{"id { int }", "fail { int } { bool } 3", "fail { int } { bool } 3"}, {"( id { int } ; { int } ! -> id { bool } )", "fail { int -> bool } { int } 3", "fail { ? -> bool } { int } 3"}, {"( id { int } -> id { bool } ; { bool } ! )", "fail { int -> ? } { ? } 3", "fail { int -> bool } { ? } 3"},
		{"id { int }", "id { int } ; { int } !", "id { int } ; { int } !"}, {"( id { int } ; { int } ! + id { ? } )", "( id { ? } + id { ? } ) ; { ? + ? } !", "( id { int } ; { int } ! + id { ? } ) ; { ? + ? } !"}, {"( { int } ? 1 ; id { int } + id { ? } )", "( id { int } ; { int } ! + id { ? } ) ; { ? + ? } !", "( { int } ? 1 ; id { int } ; { int } ! + id { ? } ) ; { ? + ? } !"},
		// two of one constructor
		{"id { int }", "id { int }", "id { int }"}, {"id { bool }", "id { bool }", "id { bool }"},
		{"( { int } ? 1 ; id { int } -> { int } ? 2 ; id { int } )", "( id { int } ; { int } ! -> id { int } ; { int } ! )", "( id { int } -> { int } ? 2 ; id { int } ; { int } ! )"}, {"( { int } ? 1 ; id { int } -> fail { int } { bool } 1 )", "( id { bool } ; { bool } ! -> fail { bool } { int } 2 )", "( fail { bool } { int } 1 -> fail { int } { int } 1 )"}, {"( fail { int } { bool } 1 -> id { ? } )", "( fail { bool } { int } 2 -> id { ? } )", "( fail { bool } { bool } 2 -> id { ? } )"},
		{"( { int } ? 1 ; id { int } * id { bool } ; { bool } ! )", "( id { int } ; { int } ! * { int } ? 2 ; id { int } )", "( { int } ? 1 ; id { int } ; { int } ! * fail { bool } { int } 2 )"}, {"( fail { int } { bool } 1 * fail { int } { bool } 2 )", "( fail { bool } { ? } 3 * fail { bool } { int * int } 4 )", "( fail { int } { ? } 1 * fail { int } { int * int } 2 )"},
		{"( id { int } ; { int } ! + id { bool } ; { bool } ! )", "( { bool } ? 1 ; id { bool } + { bool } ? 2 ; id { bool } )", "( fail { int } { bool } 1 + id { bool } )"}, {"( ( id { ? } -> id { int } ) + id { int } )", "( ( id { ? } -> id { int } ; { int } ! ) + id { int } )", "( ( id { ? } -> id { int } ; { int } ! ) + id { int } )"},
	} {
		merges(t, co(x[0]), co(x[1]), co(x[2]))
	}
}

// P16.3: two that are in no normal form, or do not meet.
func TestThenOfNone(t *testing.T) {
	for _, x := range [][2]string{
		{"{ int } !", "{ int } ? 3 ; id { int }"}, {"id { int } ; { int } !", "{ int } ? 3"}, {"{ int } !", "{ int } ? 3"}, {"id { ? * ? }", "( id { ? } * id { ? } )"}, {"( id { ? } * id { ? } )", "id { ? * ? }"}, {"id { int } ; id { int }", "id { int }"}, {"id { ? }", "id { ? } ; id { ? }"},
		{"id { int }", "id { bool }"}, {"id { int }", "id { ? }"}, {"id { ? }", "id { int }"}, {"id { ? }", "( id { ? } -> id { ? } )"}, {"id { int } ; { int } !", "id { int } ; { int } !"}, {"{ int } ? 1 ; id { int }", "{ int } ? 1 ; id { int }"}, {"id { int }", "fail { bool } { int } 1"}, {"fail { int } { bool } 1", "id { int }"}, {"fail { int } { ? } 1", "fail { int } { ? } 1"}, {"fail { int } { int } 1", "{ int } ? 1 ; id { int }"},
		{"( id { int } -> id { ? } )", "( id { ? } -> id { ? } )"}, {"( id { ? } -> id { ? } )", "( id { ? } -> id { int } )"}, {"( id { int } * id { ? } )", "( id { int } + id { ? } )"}, {"( id { int } * id { bool } )", "( id { bool } * id { int } )"}, {"( id { int } ; { int } ! -> id { ? } )", "( id { ? } -> id { ? } )"}, {"( { int } ? 1 ; id { int } * id { ? } )", "( { int } ? 1 ; id { int } * id { ? } )"},
	} {
		mergesNone(t, co(x[0]), co(x[1]), api.ErrCoerce)
	}
}

// P16.4: what coerce.Of tells of two types, in all its errors; it is in normal form already.
func TestCast(t *testing.T) {
	deep, great := chain(api.Pair, 201, true, integer()), samples.Endless(api.Sum)
	all := []api.Type{of(6), of(api.Fun), of(api.Int, integer()), deep, great, chain(api.Fun, 99, true, integer()), chain(api.Fun, 100, true, integer()), balanced(api.Pair, 745, integer()), balanced(api.Pair, 746, integer())}
	for _, text := range []string{"?", "int", "bool", "? -> ?", "int -> ?", "? -> int", "int -> bool", "? * ?", "int * int", "? + ?", "bool + ?", "(int -> ?) * (? + bool)"} {
		all = append(all, typed(text))
	}
	told := map[api.Errno]int{}
	for _, from := range all {
		for _, to := range all {
			for _, label := range []int{0, 1, -2, 1 << 31, -1 << 31, 1<<31 + 1, math.MinInt} {
				want, code := coerce.Of(from, to, label)
				c, e := norm.Cast(from, to, label)
				if e != code || !exactly(c, want) {
					t.Errorf("Cast(%s, %s, %d): %s, %v; want %v", short(from), short(to), label, shortOf(c), e, code)
				}
				if e == api.OK {
					is(t, c, true)
				}
				told[e]++
			}
		}
	}
	for _, code := range []api.Errno{api.OK, api.ErrType, api.ErrTooDeep, api.ErrTooBig, api.ErrCoerce} {
		if told[code] < 4 {
			t.Errorf("too few of a sort: %v", told)
		}
	}
}

// R3: what is handed in stays as it is, with the room behind the ends of its lists.
func TestArgumentsStay(t *testing.T) {
	room := []api.Type{unknown(), unknown(), of(77), of(78)}
	ground, empty := of(api.Pair, room[:2]...), api.Type{Kind: api.Int, Kids: room[2:2]}
	parts := []api.Co{id(unknown()), out(integer(), 4), {Kind: 80}}
	parts[1] = seq(parts[1], id(empty))
	ends := []api.Co{out(ground, 3), node(api.CoPair, parts[:2]...), {Kind: 81}}
	a := node(api.CoSeq, ends[:2]...)
	b := seq(node(api.CoPair, id(unknown()), seq(id(empty), in(empty))), in(ground))
	want := co("{ ? * ? } ? 3 ; ( id { ? } * { int } ? 4 ; id { int } ; { int } ! ) ; { ? * ? } !")
	merges(t, a, b, want)
	norms(t, seq(a, b), want)
	norms(t, node(api.CoFun, in(ground), id(of(api.Sum, ground, empty))), co("( ( id { ? } * id { ? } ) ; { ? * ? } ! -> ( ( id { ? } * id { ? } ) + id { int } ) )"))
	is(t, a, true)
	if c, e := norm.Cast(ground, unknown(), 1); e != api.OK || !exactly(c, co("( id { ? } * id { ? } ) ; { ? * ? } !")) {
		t.Error(shortOf(c), e)
	}
	if room[0].Kind != api.Unknown || room[1].Kind != api.Unknown || room[2].Kind != 77 || room[3].Kind != 78 || parts[0].Kind != api.CoId || parts[1].Kind != api.CoSeq || parts[2].Kind != 80 || ends[0].Kind != api.CoOut || ends[1].Kind != api.CoPair || ends[2].Kind != 81 {
		t.Errorf("now %v, %v, %v", room, parts, ends)
	}
}

// apart wants what the call tells to share no list with what it was handed, nor with itself, nor with another answer.
func apart(t *testing.T, call func() (api.Co, api.Errno), kids []*api.Co, parts []*api.Type) {
	t.Helper()
	c, e := call()
	again, _ := call()
	if e != api.OK {
		t.Fatal(e)
	}
	if samples.Shares(samples.CoLists(c), slices.Concat(samples.CoLists(again), kids)) || samples.Shares(samples.CoTypeLists(c), slices.Concat(samples.CoTypeLists(again), parts)) {
		t.Errorf("%s: a list is shared", shortOf(c))
	}
	for _, list := range samples.CoTypeLists(c) {
		list.Kind = 99
	}
	for _, list := range samples.CoLists(c) {
		*list = api.Co{Kind: 99}
	}
	if c, _ := call(); !exactly(c, again) {
		t.Errorf("%s is told now; want %s", shortOf(c), shortOf(again))
	}
}

// R3: an answer is new.
func TestAnswersShareNothing(t *testing.T) {
	pair := typed("(int -> ?) * (? + bool)")
	failing := fail(pair, pair, 3)
	for _, c := range []api.Co{id(unknown()), id(pair), failing, in(typed("? -> ?")), out(typed("? -> ?"), 1), node(api.CoPair, failing, failing), seq(failing, id(pair)), seq(id(pair), failing), seq(in(typed("? + ?")), out(typed("? * ?"), 1)), seq(out(typed("? + ?"), 2), in(typed("? + ?")))} {
		apart(t, func() (api.Co, api.Errno) { return norm.Norm(c) }, samples.CoLists(c), samples.CoTypeLists(c))
	}
	core := node(api.CoPair, node(api.CoFun, id(integer()), id(unknown())), node(api.CoSum, id(unknown()), id(boolean())))
	into := seq(node(api.CoPair, id(unknown()), id(unknown())), in(typed("? * ?")))
	open := seq(out(typed("? * ?"), 2), fail(typed("? * ?"), pair, 2))
	for _, x := range [][2]api.Co{{core, core}, {core, failing}, {failing, core}, {failing, failing}, {into, id(unknown())}, {id(unknown()), open}, {into, open}, {open, core}, {seq(id(integer()), in(integer())), open}} {
		kids, parts := append(samples.CoLists(x[0]), samples.CoLists(x[1])...), append(samples.CoTypeLists(x[0]), samples.CoTypeLists(x[1])...)
		apart(t, func() (api.Co, api.Errno) { return norm.Then(x[0], x[1]) }, kids, parts)
	}
	for _, x := range [][2]api.Type{{pair, pair}, {pair, unknown()}, {unknown(), pair}, {unknown(), unknown()}} {
		apart(t, func() (api.Co, api.Errno) { return norm.Cast(x[0], x[1], 1) }, nil, append(samples.Lists(x[0]), samples.Lists(x[1])...))
	}
	empty := api.Co{Kind: api.CoId, Type: api.Type{Kind: api.Int, Kids: make([]api.Type, 0, 4)}, Kids: make([]api.Co, 0, 4)}
	n, _ := norm.Norm(empty)
	m, _ := norm.Then(empty, empty)
	for _, c := range []api.Co{n, m} {
		if cap(c.Type.Kids) > 0 || cap(c.Kids) > 0 || !exactly(c, id(integer())) {
			t.Error("the room behind the end of an empty list is shared")
		}
	}
}

// R2: how many goroutines work changes no answer, and nothing is left behind.
func TestManyAtATime(t *testing.T) {
	none := samples.NoCos()[api.ErrTooBig][0]
	a, b := co("( { int } ? 1 ; id { int } -> { int } ? 1 ; id { int } )"), co("( { bool } ? 2 ; id { bool } ; { bool } ! -> id { int } ; { int } ! )")
	want := co("( { bool } ? 2 ; fail { bool } { int } 1 -> { int } ? 1 ; id { int } ; { int } ! )")
	merges(t, a, b, want)
	done := make(chan bool)
	for range 8 {
		go func() {
			same := true
			for range 300 {
				c, e := norm.Then(a, b)
				n, f := norm.Norm(seq(a, b))
				_, code := norm.Norm(none)
				d, g := norm.Cast(typed("int -> ?"), unknown(), 5)
				same = same && e == api.OK && f == api.OK && g == api.OK && code == api.ErrTooBig && exactly(c, want) && exactly(n, want) && norm.Is(c)
				same = same && types.Same(d.Kids[1].Type, typed("? -> ?")) && norm.Is(d)
			}
			done <- same
		}()
	}
	for range 8 {
		if !<-done {
			t.Error("another answer")
		}
	}
}
