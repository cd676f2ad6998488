package show_test

import (
	"errors"
	"math"
	"reflect"
	"slices"
	"strings"
	"testing"
	"unsafe"

	"lychgate/api"
	"lychgate/show"
	"lychgate/terms"
)

func typeOf(kind int8, kids ...api.Type) api.Type { return api.Type{Kind: kind, Kids: kids} }

func integer() api.Type { return typeOf(api.Int) }

func boolean() api.Type { return typeOf(api.Bool) }

func unknown() api.Type { return typeOf(api.Unknown) }

// deepType is a type so many types deep.
func deepType(depth int) api.Type {
	a := integer()
	for range depth - 1 {
		a = typeOf(api.Fun, integer(), a)
	}
	return a
}

func of(kind int8, kids ...api.Term) api.Term { return api.Term{Kind: kind, Kids: kids} }

func name(s string) api.Term { return api.Term{Kind: api.Var, Name: s} }

func num(n int64) api.Term { return api.Term{Kind: api.Num, Num: n} }

func lam(x string, a api.Type, body api.Term) api.Term {
	return api.Term{Kind: api.Lam, Name: x, Type: a, Kids: []api.Term{body}}
}

func app(f, x api.Term) api.Term { return of(api.App, f, x) }

func op(sign string, a, b api.Term) api.Term {
	return api.Term{Kind: api.Op, Name: sign, Kids: []api.Term{a, b}}
}

func is(t api.Term, a api.Type) api.Term {
	return api.Term{Kind: api.Is, Type: a, Kids: []api.Term{t}}
}

func cast(t api.Term) api.Term {
	return api.Term{Kind: api.Cast, Type: integer(), To: unknown(), Label: 1, Kids: []api.Term{t}}
}

// pairs is a term with so many leaves, no deeper than it must be.
func pairs(leaves int, leaf api.Term) api.Term {
	if leaves == 1 {
		return leaf
	}
	return of(api.Two, pairs(leaves-leaves/2, leaf), pairs(leaves/2, leaf))
}

// around is t in so many Fsts.
func around(n int, t api.Term) api.Term {
	for range n {
		t = of(api.Fst, t)
	}
	return t
}

// endless is a term that lies within itself.
func endless(kind int8) api.Term {
	kids := make([]api.Term, 2)
	kids[0], kids[1] = name("x"), of(kind, kids...)
	return kids[1]
}

// writes wants a text as the whole answer.
func writes(t *testing.T, x api.Term, want string) {
	t.Helper()
	if text, e := show.Text(x); e != api.OK || text != want {
		t.Errorf("Text: %.300q, %v; want %.300q", text, e, want)
	}
}

// refuses wants an error as the whole answer.
func refuses(t *testing.T, what string, x api.Term, want api.Errno) {
	t.Helper()
	if text, e := show.Text(x); e != want || text != "" {
		t.Errorf("Text of %s: %.300q, %v; want %v", what, text, e, want)
	}
}

// P5.1: this test and those behind it.
func TestTextOfTerms(t *testing.T) {
	x, f, one, two, three := name("x"), name("f"), num(1), num(2), num(3)
	for want, term := range map[string]api.Term{
		"x": x, "_9Az": name("_9Az"), "true": of(api.Yes), "false": of(api.No), "0": num(0), "42": num(42),
		"9223372036854775807": num(math.MaxInt64), "- 9223372036854775807": num(-math.MaxInt64), "- 1": num(-1),
		`( \ x : int . x ) ( 3 )`:                app(lam("x", integer(), x), three),
		"1 - 2 - 3":                              op("-", op("-", one, two), three),
		"1 - ( 2 - 3 )":                          op("-", one, op("-", two, three)),
		"fst f ( x )":                            of(api.Fst, app(f, x)),
		"( fst f ) ( x )":                        app(of(api.Fst, f), x),
		"- 5":                                    num(-5),
		"fst - 5":                                of(api.Fst, num(-5)),
		"x : int : ?":                            is(is(x, integer()), unknown()),
		`( \ x : ? . x ) : ?`:                    is(lam("x", unknown(), x), unknown()),
		"3 ( x )":                                app(three, x),
		"( - 3 ) ( x )":                          app(num(-3), x),
		"x ( - 3 )":                              app(x, num(-3)),
		"- 1 - - 2 * - 3":                        op("-", num(-1), op("*", num(-2), num(-3))),
		"f ( 1 ) ( 2 )":                          app(app(f, one), two),
		"f ( x ( 2 ) )":                          app(f, app(x, two)),
		"f ( 1 : ? )":                            app(f, is(one, unknown())),
		"( 1 < 2 ) = ( x = 3 )":                  op("=", op("<", one, two), op("=", x, three)),
		"1 + 2 < 2 - 1":                          op("<", op("+", one, two), op("-", two, one)),
		"1 * 2 / 3 * ( 1 / 2 )":                  op("*", op("/", op("*", one, two), three), op("/", one, two)),
		"( 1 + 2 ) * ( 2 + 3 )":                  op("*", op("+", one, two), op("+", two, three)),
		"( x : ? ) + ( x : ? )":                  op("+", is(x, unknown()), is(x, unknown())),
		"snd ( x + 1 )":                          of(api.Snd, op("+", x, one)),
		"snd x + 1":                              op("+", of(api.Snd, x), one),
		`x + ( \ x : ? . x + 1 )`:                op("+", x, lam("x", unknown(), op("+", x, one))),
		`\ x : ? . x : ? -> int`:                 lam("x", unknown(), is(x, typeOf(api.Fun, unknown(), integer()))),
		`\ x : int . \ y : bool . x`:             lam("x", integer(), lam("y", boolean(), x)),
		"[ 1 , [ x : ? , if x then 1 else 2 ] ]": of(api.Two, one, of(api.Two, is(x, unknown()), of(api.If, x, one, two))),
	} {
		writes(t, term, want)
	}
}

func TestTextOfTermsWithTypes(t *testing.T) {
	x, y := name("x"), name("y")
	a := typeOf(api.Pair, typeOf(api.Fun, integer(), unknown()), boolean())
	b := typeOf(api.Sum, integer(), typeOf(api.Sum, boolean(), unknown()))
	writes(t, lam("x", a, x), `\ x : (int -> ?) * bool . x`)
	writes(t, api.Term{Kind: api.Rec, Name: "f", Arg: "x", Type: a, To: b, Kids: []api.Term{x}}, "rec f ( x : (int -> ?) * bool ) : int + (bool + ?) . x")
	writes(t, api.Term{Kind: api.Let, Name: "x", Type: b, Kids: []api.Term{y, x}}, "let x : int + (bool + ?) = y in x")
	writes(t, api.Term{Kind: api.Inl, Type: b, Kids: []api.Term{x}}, "inl { int + (bool + ?) } x")
	writes(t, api.Term{Kind: api.Inr, Type: a, Kids: []api.Term{is(x, b)}}, "inr { (int -> ?) * bool } ( x : int + (bool + ?) )")
	writes(t, api.Term{Kind: api.Case, Name: "x", Arg: "y", Kids: []api.Term{is(y, b), x, lam("x", a, y)}}, `case y : int + (bool + ?) of x . x | y . \ x : (int -> ?) * bool . y`)
}

// heads are terms of all sorts, each with as many kids as it has, all of them x.
func heads() []api.Term {
	a, b := typeOf(api.Fun, integer(), unknown()), boolean()
	all := []api.Term{name("y"), num(0), num(7), num(-7), of(api.Yes), of(api.No)}
	kids := [...]int{api.Lam: 1, api.Rec: 1, api.App: 2, api.Let: 2, api.If: 3, api.Two: 2, api.Fst: 1, api.Snd: 1, api.Inl: 1, api.Inr: 1, api.Case: 3, api.Is: 1}
	for kind, n := range kids {
		if n > 0 {
			all = append(all, api.Term{Kind: int8(kind), Name: "y", Arg: "z", Type: a, To: b, Kids: slices.Repeat([]api.Term{name("x")}, n)})
		}
	}
	for _, sign := range []string{"+", "-", "*", "/", "<", "="} {
		all = append(all, op(sign, name("x"), name("x")))
	}
	return all
}

// within are all terms of some in which another of some, itself changed so, stands as a kid; and so on, so many deep.
func within(some []api.Term, depth int) []api.Term {
	if depth == 1 {
		return some
	}
	var all []api.Term
	for _, inner := range within(some, depth-1) {
		for _, outer := range some {
			for n := range outer.Kids {
				x := outer
				x.Kids = slices.Clone(outer.Kids)
				x.Kids[n] = inner
				all = append(all, x)
			}
		}
	}
	return all
}

func TestEachSortAsEachKid(t *testing.T) {
	tried := 0
	for depth := 1; depth <= 3; depth++ {
		for _, x := range within(heads(), depth) {
			writes(t, x, typist{}.text(x))
			tried++
			if t.Failed() {
				return // one is enough: the next ones would tell the same
			}
		}
	}
	if tried < 20000 {
		t.Errorf("only %d", tried)
	}
}

func TestTextRefuses(t *testing.T) {
	x := name("x")
	for what, term := range map[string]api.Term{
		"a Cast":                    cast(x),
		"a Cast without a label":    api.Term{Kind: api.Cast, Kids: []api.Term{x}},
		"-2^63":                     num(math.MinInt64),
		"a Lam without kids":        {Kind: api.Lam, Name: "x"},
		"the zero term":             {},
		"a name that is a key":      name("in"),
		"a name that is too long":   name(strings.Repeat("x", 65)),
		"an Op %":                   op("%", x, x),
		"an Op without a sign":      op("", x, x),
		"a type that is none":       is(x, typeOf(api.Fun)),
		"a To that is none":         {Kind: api.Rec, Name: "f", Arg: "x", To: typeOf(6), Kids: []api.Term{x}},
		"the kind 18":               of(18, x),
		"the kind -1":               of(-1),
		"a Var with a kid":          {Kind: api.Var, Name: "x", Kids: []api.Term{x}},
		"a name that is none in it": of(api.If, x, x, lam("1", integer(), x)),
	} {
		refuses(t, what, term, api.ErrTerm)
	}
	refuses(t, "one too deep", around(200, x), api.ErrTooDeep)
	refuses(t, "one too deep by its type", is(x, deepType(200)), api.ErrTooDeep)
	refuses(t, "one too great", pairs(4097, x), api.ErrTooBig)
	refuses(t, "one of many kids", of(api.App, slices.Repeat([]api.Term{x}, 100000)...), api.ErrTooBig)
	refuses(t, "one within itself", endless(api.Two), api.ErrTooBig)
	refuses(t, "a Cast within itself", endless(api.Cast), api.ErrTooBig)
	refuses(t, "a kind that is none within itself", endless(99), api.ErrTooBig)
	shared := x
	for range 40 {
		shared = of(api.Two, shared, shared)
	}
	refuses(t, "one that is shared", shared, api.ErrTooBig)
}

// Wherever a Cast or a Num that is -2^63 stands, there is no text.
func TestNoTextOfAnyTermAround(t *testing.T) {
	for _, none := range []api.Term{cast(name("x")), num(math.MinInt64)} {
		for _, x := range within(heads(), 2) {
			at := slices.IndexFunc(x.Kids, func(kid api.Term) bool { return sortOf(kid) != "Var" })
			if at < 0 {
				continue
			}
			x.Kids[at] = none
			refuses(t, sortOf(x), x, api.ErrTerm)
		}
		refuses(t, "one deep", around(150, of(api.If, name("x"), name("x"), around(30, none))), api.ErrTerm)
	}
}

func TestWhichErrorIsFirst(t *testing.T) {
	for _, none := range []api.Term{cast(name("x")), num(math.MinInt64), of(99)} {
		refuses(t, "one too great", of(api.Two, none, pairs(4096, name("x"))), api.ErrTooBig)
		refuses(t, "one too deep", of(api.Two, none, around(199, name("x"))), api.ErrTooDeep)
		refuses(t, "one as deep as may be", of(api.Two, none, around(198, name("x"))), api.ErrTerm)
		refuses(t, "one too long", of(api.Two, pairs(1000, name(strings.Repeat("x", 64))), none), api.ErrTerm)
		refuses(t, "one too long", of(api.Two, none, pairs(1000, name(strings.Repeat("x", 64)))), api.ErrTerm)
	}
}

// long is a term whose text has so many bytes.
func long(size int) api.Term {
	const leaf = 57 // with the brackets and the comma of a pair 64
	others := (size - 1) / (leaf + 7)
	t := pairs(others+1, name(strings.Repeat("x", leaf)))
	first := &t // it takes what is left
	for len(first.Kids) > 0 {
		first.Kids = slices.Clone(first.Kids)
		first = &first.Kids[0]
	}
	*first = name(strings.Repeat("y", size-others*(leaf+7)))
	return t
}

func TestTooLong(t *testing.T) {
	for size := api.MaxText - 60; size <= api.MaxText+60; size++ {
		x := long(size)
		want := typist{}.text(x)
		if len(want) != size || terms.Check(x) != api.OK {
			t.Fatalf("%d, not %d; %v", len(want), size, terms.Check(x))
		}
		if size <= api.MaxText {
			writes(t, x, want)
		} else {
			refuses(t, "one too long", x, api.ErrLong)
		}
	}
	refuses(t, "one by far too long", pairs(4096, name(strings.Repeat("x", 64))), api.ErrLong)
	// Blanks, signs and brackets count.
	const size = api.MaxText - 4
	inner := typist{}.text(long(size))
	writes(t, of(api.Fst, long(size)), "fst "+inner)
	writes(t, op("+", long(size), num(1)), inner+" + 1")
	writes(t, op("-", name("x"), long(size)), "x - "+inner)
	writes(t, is(long(size), unknown()), inner+" : ?")
	for what, x := range map[string]api.Term{
		"its Fst":      of(api.Fst, long(size+1)),
		"its 1":        op("+", long(size), num(10)),
		"its x":        op("-", name("x"), long(size+1)),
		"its type":     is(long(size), integer()),
		"its brackets": op("-", name("x"), op("-", long(size-7), num(1))),
	} {
		refuses(t, "one too long by "+what, x, api.ErrLong)
	}
	writes(t, op("-", name("x"), op("-", long(size-8), num(1))), "x - ( "+typist{}.text(long(size-8))+" - 1 )")
}

// As deep and as great as may be.
func TestTextUpToTheBounds(t *testing.T) {
	x := name("x")
	writes(t, around(199, x), strings.Repeat("fst ", 199)+"x")
	writes(t, pairs(4096, x), typist{}.text(pairs(4096, x)))
	writes(t, is(x, deepType(199)), "x : "+strings.Repeat("int -> ", 198)+"int")
	left, right := x, x
	for range 199 {
		left, right = op("-", left, num(1)), op("-", num(1), right)
	}
	writes(t, left, "x"+strings.Repeat(" - 1", 199))
	writes(t, right, strings.Repeat("1 - ( ", 198)+"1 - x"+strings.Repeat(" )", 198))
}

// What does not count for a kind makes no difference, whatever it is.
func TestWhatDoesNotCount(t *testing.T) {
	for _, x := range within(heads(), 2) {
		want, _ := show.Text(terms.Bare(x))
		writes(t, x, want)
		writes(t, spread(x), want)
	}
}

// spread is t with something wrong in each field that does not count.
func spread(t api.Term) api.Term {
	kids := t.Kids
	wrong := api.Term{Name: "in", Arg: "1", Num: math.MinInt64, Type: typeOf(api.Fun), To: typeOf(77), At: -5}
	b := terms.Bare(t)
	if b.Name == "" {
		t.Name = wrong.Name
	}
	if b.Arg == "" {
		t.Arg = wrong.Arg
	}
	if t.Kind != api.Num {
		t.Num = wrong.Num
	}
	if !slices.Contains([]int8{api.Lam, api.Rec, api.Let, api.Inl, api.Inr, api.Is}, t.Kind) {
		t.Type = wrong.Type
	}
	if t.Kind != api.Rec {
		t.To = wrong.To
	}
	t.At, t.Kids = wrong.At, nil
	for _, kid := range kids {
		t.Kids = append(t.Kids, spread(kid))
	}
	return t
}

// R3.
func TestTextKeepsAndChangesNothing(t *testing.T) {
	for _, x := range within(heads(), 3) {
		x.Kids = append(slices.Clone(x.Kids), name("room"))
		room := slices.Clone(x.Kids)
		x.Kids = x.Kids[:len(x.Kids)-1]
		before := terms.Bare(x)
		show.Text(x)
		if !reflect.DeepEqual(before, terms.Bare(x)) || !reflect.DeepEqual(room, x.Kids[:len(room)]) {
			t.Fatalf("%s is changed", typist{}.text(before))
		}
	}
	text := strings.Repeat("x", 9)
	if s, e := show.Text(name(text)); e != api.OK || s != text || unsafe.StringData(s) == unsafe.StringData(text) {
		t.Errorf("%q, %v: not a copy", s, e)
	}
}

// R2: how many goroutines work changes no answer.
func TestManyAtATime(t *testing.T) {
	all := within(heads(), 2)
	var want []string
	for _, x := range all {
		want = append(want, typist{}.text(x))
	}
	done := make(chan error)
	for range 8 {
		go func() {
			for n, x := range all {
				if s, e := show.Text(x); e != api.OK || s != want[n] {
					done <- errors.New(s + " is not " + want[n])
					return
				}
			}
			done <- nil
		}()
	}
	for range 8 {
		if err := <-done; err != nil {
			t.Error(err)
		}
	}
}
