package terms_test

import (
	"math"
	"reflect"
	"slices"
	"strings"
	"testing"

	"lychgate/api"
	"lychgate/terms"
	"lychgate/types"
)

func typeOf(kind int8, kids ...api.Type) api.Type { return api.Type{Kind: kind, Kids: kids} }

func integer() api.Type { return typeOf(api.Int) }

func boolean() api.Type { return typeOf(api.Bool) }

func fun(a, b api.Type) api.Type { return typeOf(api.Fun, a, b) }

// fullType is a type of 2^depth - 1 nodes, whose parts are shared.
func fullType(depth int) api.Type {
	a := integer()
	for range depth - 1 {
		a = typeOf(api.Pair, a, a)
	}
	return a
}

// deepType is a type so many types deep.
func deepType(depth int) api.Type {
	a := integer()
	for range depth - 1 {
		a = fun(integer(), a)
	}
	return a
}

// endlessType is a type that lies within itself.
func endlessType() api.Type {
	kids := make([]api.Type, 2)
	kids[1] = typeOf(api.Sum, kids...)
	return kids[1]
}

func of(kind int8, kids ...api.Term) api.Term { return api.Term{Kind: kind, Kids: kids} }

func name(s string) api.Term { return api.Term{Kind: api.Var, Name: s} }

func num(n int64) api.Term { return api.Term{Kind: api.Num, Num: n} }

func lam(x string, a api.Type, body api.Term) api.Term {
	return api.Term{Kind: api.Lam, Name: x, Type: a, Kids: []api.Term{body}}
}

func rec(f, x string, a, b api.Type, body api.Term) api.Term {
	return api.Term{Kind: api.Rec, Name: f, Arg: x, Type: a, To: b, Kids: []api.Term{body}}
}

func let(x string, a api.Type, what, body api.Term) api.Term {
	return api.Term{Kind: api.Let, Name: x, Type: a, Kids: []api.Term{what, body}}
}

func caseOf(what api.Term, x string, left api.Term, y string, right api.Term) api.Term {
	return api.Term{Kind: api.Case, Name: x, Arg: y, Kids: []api.Term{what, left, right}}
}

func app(f, x api.Term) api.Term { return of(api.App, f, x) }

func two(a, b api.Term) api.Term { return of(api.Two, a, b) }

func fst(t api.Term) api.Term { return of(api.Fst, t) }

func op(sign string, a, b api.Term) api.Term {
	return api.Term{Kind: api.Op, Name: sign, Kids: []api.Term{a, b}}
}

func is(t api.Term, a api.Type) api.Term {
	return api.Term{Kind: api.Is, Type: a, Kids: []api.Term{t}}
}

func cast(label int, a, b api.Type, t api.Term) api.Term {
	return api.Term{Kind: api.Cast, Type: a, To: b, Label: label, Kids: []api.Term{t}}
}

// down is a term so many terms deep.
func down(depth int) api.Term {
	t := name("x")
	for range depth - 1 {
		t = fst(t)
	}
	return t
}

// full is a term of 2^depth - 1 nodes, whose kids are shared.
func full(depth int) api.Term {
	t := name("x")
	for range depth - 1 {
		t = two(t, t)
	}
	return t
}

// endless is a term that lies within itself.
func endless(kind int8) api.Term {
	kids := make([]api.Term, 2)
	kids[0], kids[1] = name("x"), of(kind, kids...)
	return kids[1]
}

// broad has so many nodes, one beside the other but for the one around them.
func broad(kind int8, nodes int) api.Term {
	kids := make([]api.Term, nodes-1)
	for n := range kids {
		kids[n] = name("x")
	}
	return of(kind, kids...)
}

// with is t, changed by change.
func with(t api.Term, change func(t *api.Term)) api.Term {
	change(&t)
	return t
}

type measured struct {
	name  string
	t     api.Term
	e     api.Errno
	nodes int
	depth int
}

func edges() []measured {
	x, i, b := name("x"), integer(), boolean()
	return []measured{
		{"x", x, api.OK, 1, 1},
		{`\x:int.x(y)`, lam("x", i, app(x, name("y"))), api.OK, 5, 3},
		{"rec f(f:?):bool.f", rec("f", "f", api.Type{}, b, name("f")), api.OK, 4, 2},
		{"case z of x.x|y.x", caseOf(name("z"), "x", x, "y", x), api.OK, 4, 2},
		{"a number", num(math.MinInt64), api.OK, 1, 1},
		{"true", of(api.Yes), api.OK, 1, 1},
		{"false", of(api.No), api.OK, 1, 1},
		{"an empty list of kids", of(api.No, []api.Term{}...), api.OK, 1, 1},
		{"let", let("y", fun(i, i), x, x), api.OK, 6, 3},
		{"if", of(api.If, of(api.Yes), x, fst(x)), api.OK, 5, 3},
		{"inl", with(of(api.Inl, x), func(t *api.Term) { t.Type = typeOf(api.Sum, i, b) }), api.OK, 5, 3},
		{"inr", with(of(api.Inr, x), func(t *api.Term) { t.Type = i }), api.OK, 3, 2},
		{"snd", of(api.Snd, x), api.OK, 2, 2},
		{"an ascription", is(x, fun(i, fun(i, i))), api.OK, 7, 4},
		{"a cast, its From the deeper", cast(1, fun(i, fun(i, i)), b, x), api.OK, 8, 4},
		{"a cast, its To the deeper", cast(-1, b, fun(i, fun(i, i)), x), api.OK, 8, 4},
		{"a Rec, its To the deeper", rec("f", "x", b, fun(i, i), x), api.OK, 6, 3},
		{"an ascription within a cast", cast(1, i, i, is(x, i)), api.OK, 6, 3},
		{"deeper in the last kid", of(api.If, x, x, fst(fst(x))), api.OK, 6, 4},
		{"deeper in the first kid", of(api.If, fst(fst(x)), x, x), api.OK, 6, 4},

		{"as deep as may be", down(200), api.OK, 200, 200},
		{"too deep by one", down(201), api.ErrTooDeep, 201, 201},
		{"too deep by many", down(8000), api.ErrTooDeep, 8000, 201},
		{"as deep as may be by its type", is(x, deepType(199)), api.OK, 399, 200},
		{"too deep by its type", is(x, deepType(200)), api.ErrTooDeep, 401, 201},
		{"as deep as may be by a To", rec("f", "x", i, deepType(199), x), api.OK, 400, 200},
		{"too deep by a To", rec("f", "x", i, deepType(200), x), api.ErrTooDeep, 402, 201},
		{"too deep by a cast's To", cast(1, i, deepType(200), x), api.ErrTooDeep, 402, 201},
		{"as deep as may be by a type deep in it", fst(fst(lam("x", deepType(197), x))), api.OK, 397, 200},
		{"too deep by a type deep in it", fst(fst(lam("x", deepType(198), x))), api.ErrTooDeep, 399, 201},

		{"8191 nodes", full(13), api.OK, 8191, 13},
		{"as many nodes as may be", fst(full(13)), api.OK, 8192, 14},
		{"too many nodes by one", fst(fst(full(13))), api.ErrTooBig, 8193, 201},
		{"as many as may be with its types", rec("f", "x", fullType(12), fullType(12), x), api.OK, 8192, 13},
		{"too many with its types", rec("f", "x", fullType(12), fullType(12), fst(x)), api.ErrTooBig, 8193, 201},
		{"as many as may be with a cast's types", cast(7, fullType(12), fullType(12), x), api.OK, 8192, 13},
		{"too many with a cast's types", cast(7, fullType(12), fullType(12), fst(x)), api.ErrTooBig, 8193, 201},
		{"too many with types here and there", is(is(x, fullType(12)), fullType(12)), api.ErrTooBig, 8193, 201},
		{"too many by its type alone", is(x, fullType(14)), api.ErrTooBig, 8193, 201},
		{"too many by a type that is shared", is(x, fullType(40)), api.ErrTooBig, 8193, 201},
		{"a type within itself", lam("x", endlessType(), x), api.ErrTooBig, 8193, 201},
		{"a To within itself", rec("f", "x", i, endlessType(), x), api.ErrTooBig, 8193, 201},
		{"forty deep and shared", full(40), api.ErrTooBig, 8193, 201},
		{"sixty thousand deep", down(60000), api.ErrTooBig, 8193, 201},
		{"within itself", endless(api.Two), api.ErrTooBig, 8193, 201},
		{"too many, broad", broad(api.App, 100000), api.ErrTooBig, 8193, 201},

		{"the zero term", api.Term{}, api.ErrTerm, 1, 1},
		{"a Lam without kids", with(lam("x", i, x), func(t *api.Term) { t.Kids = nil }), api.ErrTerm, 2, 2},
		{"a Var with a kid", with(x, func(t *api.Term) { t.Kids = []api.Term{x} }), api.ErrTerm, 2, 2},
		{"an Op of another sign", op("%", x, x), api.ErrTerm, 3, 2},
		{"a cast without a label", cast(0, i, i, x), api.ErrTerm, 4, 2},
		{"a name that is a key", name("let"), api.ErrTerm, 1, 1},
		{"a type that is none", is(x, typeOf(9)), api.ErrTerm, 3, 2},
		{"a type with a kid too many", is(x, typeOf(api.Int, i)), api.ErrTerm, 4, 3},
		{"a type that is none, as deep as may be", is(x, typeOf(api.Int, deepType(198))), api.ErrTerm, 398, 200},
		{"a type that is none, too deep", is(x, typeOf(api.Int, deepType(199))), api.ErrTooDeep, 400, 201},
		{"a To that is none", rec("f", "x", i, typeOf(api.Fun), x), api.ErrTerm, 4, 2},
		{"a cast's To that is none", cast(1, i, fun(i, typeOf(-1)), x), api.ErrTerm, 6, 3},
		{"the kind 18", of(18), api.ErrTerm, 1, 1},
		{"the kind -1, with kids", of(-1, x, fst(x)), api.ErrTerm, 4, 3},
		{"none deep on the right", two(x, fst(two(x, fst(op("", x, x))))), api.ErrTerm, 9, 6},
		{"none on the left", two(of(127), x), api.ErrTerm, 3, 2},
		{"kids too many for all", broad(api.App, 8192), api.ErrTerm, 8192, 2},
		{"too many nodes ahead of a kind that is none", broad(99, 8193), api.ErrTooBig, 8193, 201},
		{"too many nodes ahead of a name that is none", op("%", full(13), x), api.ErrTooBig, 8193, 201},
		{"too deep ahead of a name that is none", op("%", down(200), x), api.ErrTooDeep, 202, 201},
		{"too deep ahead of a kind that is none", of(-128, down(200)), api.ErrTooDeep, 201, 201},
		{"as deep as may be, but none", of(-128, down(199)), api.ErrTerm, 200, 200},
		{"a kind that is none, within itself", endless(18), api.ErrTooBig, 8193, 201},

		{"a kind that is none has no types", with(of(18, x), func(t *api.Term) { t.Type, t.To = endlessType(), fullType(40) }), api.ErrTerm, 2, 2},
		{"types that do not count", with(two(x, x), func(t *api.Term) { t.Type, t.To = endlessType(), deepType(300) }), api.OK, 3, 2},
		{"a To that does not count", with(let("x", i, x, x), func(t *api.Term) { t.To = typeOf(9, fullType(40)) }), api.OK, 4, 2},
	}
}

// P3.1 and P3.2.
func TestCheckNodesDepth(t *testing.T) {
	for _, x := range edges() {
		if e := terms.Check(x.t); e != x.e {
			t.Errorf("Check of %s: %v, want %v", x.name, e, x.e)
		}
		if n := terms.Nodes(x.t); n != x.nodes {
			t.Errorf("Nodes of %s: %d, want %d", x.name, n, x.nodes)
		}
		if d := terms.Depth(x.t); d != x.depth {
			t.Errorf("Depth of %s: %d, want %d", x.name, d, x.depth)
		}
	}
}

// What is refused by Check is none for any of the calls.
func TestWhatIsNoTermIsNoneForAll(t *testing.T) {
	for _, x := range edges() {
		ok := x.e == api.OK
		if terms.Same(x.t, x.t) != ok {
			t.Errorf("Same of %s with itself: %v", x.name, !ok)
		}
		if ok {
			continue
		}
		if terms.Same(x.t, num(1)) || terms.Same(num(1), x.t) {
			t.Errorf("Same of %s and 1: true", x.name)
		}
		if free := terms.Free(x.t); len(free) > 0 {
			t.Errorf("Free of %s: %.5q", x.name, free)
		}
		if bare := terms.Bare(x.t); !reflect.DeepEqual(bare, api.Term{}) {
			t.Errorf("Bare of %s is not the zero term", x.name)
		}
	}
}

// The chapter's table, written down a second time: how many kids, and the fields that count.
var table = [...]struct {
	kids   int
	fields string
}{
	{0, "Name"}, {0, "Num"}, {0, ""}, {0, ""}, {1, "Name Type"}, {1, "Name Arg Type To"}, {2, ""}, {2, "Name Type"}, {3, ""},
	{2, ""}, {1, ""}, {1, ""}, {1, "Type"}, {1, "Type"}, {3, "Name Arg"}, {2, "Name"}, {1, "Type"}, {1, "Type To Label"},
}

func counts(kind int, field string) bool {
	return slices.Contains(strings.Fields(table[kind].fields), field)
}

// filled is a term of a kind that has something in every field, whether it counts or not.
func filled(kind int8, kids ...api.Term) api.Term {
	t := api.Term{Kind: kind, Name: "a", Arg: "b", Num: 3, Type: fun(integer(), boolean()), To: typeOf(api.Sum, integer(), api.Type{}), Label: 5, At: 7, Kids: kids}
	if kind == api.Op {
		t.Name = "+"
	}
	return t
}

// ofTable is a filled term of a kind of the table.
func ofTable(kind int) api.Term {
	return filled(int8(kind), slices.Repeat([]api.Term{num(1)}, table[kind].kids)...)
}

// P3.1.
func TestEveryKindWithUpToFourKids(t *testing.T) {
	for kind := math.MinInt8; kind <= math.MaxInt8; kind++ {
		for kids := range 5 {
			want := api.ErrTerm
			if kind >= 0 && kind < len(table) && table[kind].kids == kids {
				want = api.OK
			}
			x := filled(int8(kind), slices.Repeat([]api.Term{num(1)}, kids)...)
			if e := terms.Check(x); e != want {
				t.Errorf("Check of the kind %d with %d kids: %v, want %v", kind, kids, e, want)
			}
			if e := terms.Check(two(num(1), x)); e != want {
				t.Errorf("Check of a pair with the kind %d with %d kids: %v, want %v", kind, kids, e, want)
			}
		}
	}
}

// P3.1: what stands in a field is looked at where it counts, and only there.
func TestFieldsThatAreNone(t *testing.T) {
	long := strings.Repeat("n", api.MaxName+1)
	bad := map[string][]func(t *api.Term){}
	for _, s := range []string{"", "let", "true", "int", "of", "1", "1a", "a b", "a ", " a", "a#", "\u00e9", "a\xff", "\x00", "->", "%", "==", "+ ", long} {
		bad["Name"] = append(bad["Name"], func(t *api.Term) { t.Name = s })
		bad["Arg"] = append(bad["Arg"], func(t *api.Term) { t.Arg = s })
	}
	for _, a := range []api.Type{typeOf(6), typeOf(-1), typeOf(api.Fun), typeOf(api.Int, integer()), fun(integer(), typeOf(77))} {
		bad["Type"] = append(bad["Type"], func(t *api.Term) { t.Type = a })
		bad["To"] = append(bad["To"], func(t *api.Term) { t.To = a })
	}
	for _, n := range []int{0, 1<<31 + 1, -1<<31 - 1, math.MaxInt, math.MinInt} {
		bad["Label"] = append(bad["Label"], func(t *api.Term) { t.Label = n })
	}
	for kind := range table {
		for field, changes := range bad {
			want := api.OK
			if counts(kind, field) {
				want = api.ErrTerm
			}
			for _, change := range changes {
				x := with(ofTable(kind), change)
				if e := terms.Check(x); e != want {
					t.Errorf("Check of the kind %d with another %s: %v, want %v: %+v", kind, field, e, want, x)
				}
			}
		}
	}
}

// P3.1.
func TestNamesSignsLabelsThatAreSome(t *testing.T) {
	for _, s := range []string{"x", "_", "Z9", "def", "lets", "In", strings.Repeat("n", api.MaxName)} {
		x := name(s)
		for _, y := range []api.Term{x, lam(s, integer(), x), rec(s, "a", integer(), integer(), x), rec("a", s, integer(), integer(), x),
			let(s, integer(), x, x), caseOf(x, s, x, "a", x), caseOf(x, "a", x, s, x)} {
			if e := terms.Check(y); e != api.OK {
				t.Errorf("Check with the name %q: %v: %+v", s, e, y)
			}
		}
		if e := terms.Check(op(s, x, x)); e != api.ErrTerm {
			t.Errorf("Check of an Op with the name %q: %v", s, e)
		}
	}
	for _, s := range []string{"+", "-", "*", "/", "<", "="} {
		if e := terms.Check(op(s, num(1), num(2))); e != api.OK {
			t.Errorf("Check of an Op %s: %v", s, e)
		}
		if e := terms.Check(name(s)); e != api.ErrTerm {
			t.Errorf("Check of the name %s: %v", s, e)
		}
	}
	for _, s := range []string{">", "<=", "++", "->", "?", ".", ""} {
		if e := terms.Check(op(s, num(1), num(2))); e != api.ErrTerm {
			t.Errorf("Check of an Op %q: %v", s, e)
		}
	}
	for _, n := range []int{1, -1, 1<<31 - 1, 1 - 1<<31, 1 << 31, -1 << 31} {
		if e := terms.Check(cast(n, integer(), api.Type{}, num(1))); e != api.OK {
			t.Errorf("Check of a cast with the label %d: %v", n, e)
		}
	}
}

// changes are for each field some other thing that may stand there.
func changes() map[string]func(t *api.Term) {
	return map[string]func(t *api.Term){
		"Name": func(t *api.Term) {
			if t.Name = "c"; t.Kind == api.Op {
				t.Name = "-"
			}
		},
		"Arg":   func(t *api.Term) { t.Arg = "c" },
		"Num":   func(t *api.Term) { t.Num = -3 },
		"Type":  func(t *api.Term) { t.Type = fun(integer(), api.Type{}) },
		"To":    func(t *api.Term) { t.To = typeOf(api.Pair, integer(), api.Type{}) },
		"Label": func(t *api.Term) { t.Label = -5 },
		"At":    func(t *api.Term) { t.At = 8 },
	}
}

// P3.3: a field makes a difference where it counts, and only there.
func TestSameFieldByField(t *testing.T) {
	for kind := range table {
		x := ofTable(kind)
		if !terms.Same(x, ofTable(kind)) {
			t.Errorf("the kind %d is not the same as itself", kind)
		}
		for field, change := range changes() {
			y, want := with(ofTable(kind), change), !counts(kind, field)
			if terms.Same(x, y) != want || terms.Same(y, x) != want || terms.Same(fst(x), fst(y)) != want {
				t.Errorf("Same of the kind %d with another %s: %v", kind, field, !want)
			}
		}
		for n := range table[kind].kids {
			y := ofTable(kind)
			y.Kids[n] = num(2)
			if terms.Same(x, y) || terms.Same(y, x) {
				t.Errorf("Same of the kind %d with another kid %d: true", kind, n)
			}
		}
		for other := range table {
			if terms.Same(x, ofTable(other)) != (kind == other) {
				t.Errorf("Same of the kinds %d and %d: %v", kind, other, kind != other)
			}
		}
	}
}

// P3.3.
func TestSame(t *testing.T) {
	x, y, i := name("x"), name("y"), integer()
	unlike := []api.Term{x, y, num(0), num(1), of(api.Yes), of(api.No), lam("x", i, x), lam("y", i, y), lam("x", i, y), lam("x", boolean(), x),
		lam("x", api.Type{}, x), rec("f", "x", i, i, x), rec("x", "f", i, i, x), rec("f", "x", i, boolean(), x), rec("f", "x", boolean(), i, x),
		app(x, y), app(y, x), two(x, y), two(two(x, y), x), two(x, two(y, x)), op("+", x, y), op("*", x, y), op("+", y, x), fst(x), of(api.Snd, x),
		is(x, i), is(x, fun(i, i)), cast(1, i, i, x), cast(-1, i, i, x), cast(1, i, api.Type{}, x), cast(1, api.Type{}, i, x),
		caseOf(x, "x", x, "y", y), caseOf(x, "y", x, "x", y), let("x", i, x, y), let("x", i, y, x), down(200), full(12)}
	for n, a := range unlike {
		for m, b := range unlike {
			if terms.Same(a, b) != (n == m) {
				t.Errorf("Same of %+v and %+v: %v", a, b, n != m)
			}
		}
	}
	if !terms.Same(api.Term{Kind: api.Yes, Kids: []api.Term{}, Type: api.Type{Kids: []api.Type{}}}, of(api.Yes)) ||
		!terms.Same(is(x, api.Type{Kids: []api.Type{}}), is(x, api.Type{})) {
		t.Error("Same tells nil and empty lists apart")
	}
}

// P3.4.
func TestFree(t *testing.T) {
	x, y, z, i := name("x"), name("y"), name("z"), integer()
	for _, c := range []struct {
		t    api.Term
		free string
	}{
		{x, "x"}, {num(1), ""}, {of(api.Yes), ""},
		{lam("x", i, app(x, y)), "y"}, {rec("f", "f", api.Type{}, boolean(), name("f")), ""}, {caseOf(z, "x", x, "y", x), "x z"},

		{lam("x", i, x), ""}, {lam("y", i, x), "x"},
		{rec("f", "x", i, i, app(name("f"), app(x, y))), "y"}, {rec("f", "f", i, i, app(name("f"), x)), "x"},
		{let("x", i, x, x), "x"}, {let("x", i, y, x), "y"}, {let("x", i, num(1), two(x, z)), "z"},
		{caseOf(two(x, y), "x", x, "y", y), "x y"}, {caseOf(num(1), "x", x, "y", y), ""},
		{caseOf(num(1), "x", y, "y", x), "x y"}, {caseOf(num(1), "x", x, "x", x), ""}, {caseOf(x, "x", x, "x", x), "x"},

		{two(lam("x", i, x), x), "x"}, {two(x, lam("x", i, x)), "x"},
		{lam("x", i, two(lam("x", i, x), x)), ""}, {rec("x", "x", i, i, two(lam("x", i, x), x)), ""},
		{lam("x", i, two(rec("x", "x", i, i, x), x)), ""}, {two(rec("x", "x", i, i, x), x), "x"},
		{lam("x", i, let("x", i, x, two(x, y))), "y"}, {let("x", i, lam("x", i, x), x), ""}, {app(let("x", i, y, x), x), "x y"},
		{caseOf(z, "x", lam("y", i, two(x, y)), "y", lam("x", i, two(x, y))), "z"},
		{caseOf(lam("x", i, x), "a", x, "b", num(1)), "x"},

		{two(z, two(y, two(x, z))), "x y z"}, {op("+", x, is(x, i)), "x"}, {of(api.If, z, x, y), "x y z"},
		{two(name("b"), two(name("aa"), two(name("_"), two(name("a"), two(name("Z"), two(name("a1"), name("aA"))))))), "Z _ a a1 aA aa b"},
		{cast(1, i, i, with(of(api.Inl, x), func(t *api.Term) { t.Type, t.Name, t.Arg = i, "x", "y" })), "x"},
		{full(13), "x"}, {down(200), "x"},
	} {
		if got := terms.Free(c.t); !slices.Equal(got, strings.Fields(c.free)) {
			t.Errorf("Free(%+v) = %q; want %q", c.t, got, c.free)
		}
	}
}

// P3.5.
func TestBareFieldByField(t *testing.T) {
	for kind := range table {
		x := ofTable(kind)
		b := terms.Bare(x)
		for field, c := range map[string]struct{ has, empty bool }{
			"Name":  {b.Name == x.Name, b.Name == ""},
			"Arg":   {b.Arg == x.Arg, b.Arg == ""},
			"Num":   {b.Num == x.Num, b.Num == 0},
			"Type":  {types.Same(b.Type, x.Type), b.Type.Kind == 0 && len(b.Type.Kids) == 0},
			"To":    {types.Same(b.To, x.To), b.To.Kind == 0 && len(b.To.Kids) == 0},
			"Label": {b.Label == x.Label, b.Label == 0},
			"At":    {false, b.At == 0},
		} {
			if c.has != counts(kind, field) || c.empty != !counts(kind, field) {
				t.Errorf("Bare of the kind %d: %+v, %s", kind, b, field)
			}
		}
		if b.Kind != x.Kind || len(b.Kids) != len(x.Kids) {
			t.Errorf("Bare of the kind %d: %+v", kind, b)
		}
		for _, kid := range b.Kids {
			if !reflect.DeepEqual(kid, num(1)) {
				t.Errorf("Bare of the kind %d: the kid %+v", kind, kid)
			}
		}
	}
}

// P3.5: what does not count is gone within kids, too.
func TestBareWithin(t *testing.T) {
	i := integer()
	x := api.Term{Kind: api.Lam, Name: "x", Arg: "no name", Num: 4, Type: i, To: endlessType(), Label: 9, At: 3, Kids: []api.Term{
		{Kind: api.Two, Name: "%", At: 5, Type: typeOf(99), Kids: []api.Term{
			{Kind: api.Var, Name: "x", Num: 1, At: 6, Type: i, Kids: []api.Term{}},
			{Kind: api.Num, Name: "x", Num: -1, At: 8, Label: -1}}}}}
	if b, want := terms.Bare(x), lam("x", i, two(name("x"), num(-1))); !reflect.DeepEqual(b, want) {
		t.Errorf("%+v, want %+v", b, want)
	}
}
