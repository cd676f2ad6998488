package static_test

import (
	"maps"
	"math/rand"
	"slices"
	"strconv"
	"strings"
	"testing"

	"lychgate/api"
	"lychgate/parse"
	"lychgate/show"
	"lychgate/static"
	"lychgate/terms"
	"lychgate/types"
)

// The table of chapter 9, written down a second time, as texts: what is asked of a term of each kind, one thing behind the other. A kid's type is called by its number from where it is asked on, the parts of what has a constructor l and r.
var table = [...]string{
	api.Num:  "is int",
	api.Yes:  "is bool",
	api.No:   "is bool",
	api.Lam:  "kid 0 Name Type; is Type -> 0",
	api.Rec:  "kid 0 Name Type->To Arg Type; same 0 To; is Type -> To",
	api.App:  "kid 0; kid 1; has 0 ->; same 1 l; is r",
	api.Let:  "kid 0; same 0 Type; kid 1 Name Type; is 1",
	api.If:   "kid 0; kid 1; kid 2; same 0 bool; same 1 2; is 2",
	api.Two:  "kid 0; kid 1; is 0 * 1",
	api.Fst:  "kid 0; has 0 *; is l",
	api.Snd:  "kid 0; has 0 *; is r",
	api.Inl:  "kid 0; has Type +; same 0 l; is Type",
	api.Inr:  "kid 0; has Type +; same 0 r; is Type",
	api.Case: "kid 0; has 0 +; kid 1 Name l; kid 2 Arg r; same 1 2; is 2",
	api.Op:   "kid 0; kid 1; same 0 int; same 1 int; is answer",
	api.Is:   "kid 0; same 0 Type; is Type",
}

// A reading goes through the table for one term.
type reading struct {
	t      api.Term
	around map[string]api.Type
	values map[string]api.Type
}

// ruled is what is to be told of t.
func ruled(t api.Term) (api.Type, *api.Fault) {
	if code := refused(t); code != api.OK {
		return api.Type{}, &api.Fault{Code: code}
	}
	all := allOf(t)
	if n := slices.IndexFunc(all, leavesOpen); n >= 0 {
		return api.Type{}, &api.Fault{Code: api.ErrGradual, At: all[n].At}
	}
	return read(t, map[string]api.Type{})
}

// refused is what is told of t ahead of annotations.
func refused(t api.Term) api.Errno {
	if code := terms.Check(t); code != api.OK {
		return code
	}
	if slices.ContainsFunc(allOf(t), func(x api.Term) bool { return x.Kind == api.Cast }) {
		return api.ErrTerm
	}
	return api.OK
}

// allOf is t, and all terms within it, each ahead of its kids.
func allOf(t api.Term) []api.Term {
	all := []api.Term{t}
	for _, kid := range t.Kids {
		all = append(all, allOf(kid)...)
	}
	return all
}

// leavesOpen tells whether there is a ? in the text of t, made short: its kids are numbers.
func leavesOpen(t api.Term) bool {
	alone := over(t, func(api.Term) api.Term { return node(api.Num, 0) })
	alone.Num = 0
	text, code := show.Text(alone)
	if code != api.OK {
		panic(code)
	}
	return strings.Contains(text, "?")
}

func read(t api.Term, around map[string]api.Type) (api.Type, *api.Fault) {
	a, f := reading{t, around, map[string]api.Type{"int": integer(), "bool": boolean(), "Type": t.Type, "To": t.To, "answer": integer()}}.through()
	if f != nil {
		return api.Type{}, f
	}
	if e := types.Check(a); e != api.OK {
		return api.Type{}, &api.Fault{Code: e, At: t.At}
	}
	return a, nil
}

func (r reading) through() (api.Type, *api.Fault) {
	if r.t.Kind == api.Var {
		if a, ok := r.around[r.t.Name]; ok {
			return a, nil
		}
		return api.Type{}, &api.Fault{Code: api.ErrName, At: r.t.At, Word: r.t.Name}
	}
	if r.t.Name == "<" || r.t.Name == "=" {
		r.values["answer"] = boolean()
	}
	for step := range strings.SplitSeq(table[r.t.Kind], "; ") {
		words := strings.Fields(step)
		switch words[0] {
		case "kid":
			if f := r.kid(words[1], words[2:]); f != nil {
				return api.Type{}, f
			}
		case "same":
			if text(r.values[words[1]]) != text(r.values[words[2]]) {
				return api.Type{}, &api.Fault{Code: api.ErrAgree, At: r.t.At}
			}
		case "has":
			a := r.values[words[1]]
			if a.Kind != kinds[words[2]] {
				return api.Type{}, &api.Fault{Code: api.ErrMatch, At: r.t.At}
			}
			r.values["l"], r.values["r"] = a.Kids[0], a.Kids[1]
		case "is":
			return r.value(words[1:]), nil
		}
	}
	panic("a row without an end")
}

func text(a api.Type) string {
	text, code := types.Text(a)
	if code != api.OK {
		panic(code)
	}
	return text
}

// kid asks a kid, with names around it; what each stands for is written without blanks.
func (r reading) kid(number string, names []string) *api.Fault {
	around := maps.Clone(r.around)
	for pair := range slices.Chunk(names, 2) {
		x := r.t.Name
		if pair[0] == "Arg" {
			x = r.t.Arg
		}
		around[x] = r.value(strings.Fields(strings.Replace(pair[1], "->", " -> ", 1)))
	}
	n, _ := strconv.Atoi(number)
	a, f := read(r.t.Kids[n], around)
	r.values[number] = a
	return f
}

// kinds are the types' signs.
var kinds = map[string]int8{"->": api.Fun, "*": api.Pair, "+": api.Sum}

func (r reading) value(words []string) api.Type {
	a := r.values[words[0]]
	if len(words) == 1 {
		return a
	}
	return of(kinds[words[1]], a, r.values[words[2]])
}

// asRuled wants of a term what the second writing of the rules tells of it, and tells how it ended. It leaves the test at the first fault: the next ones would tell the same.
func asRuled(t *testing.T, x api.Term) api.Errno {
	t.Helper()
	want, f := ruled(x)
	code := api.OK
	switch {
	case f == nil:
		takes(t, x, want)
	case f.Code == api.ErrGradual, refused(x) != api.OK:
		notStatic(t, x, *f)
		code = f.Code
	default:
		refuses(t, x, *f)
		code = f.Code
	}
	if t.Failed() {
		t.FailNow()
	}
	return code
}

// numbered is x with each term in it at a place of its own, in an order that tells nothing.
func numbered(random *rand.Rand, x api.Term) api.Term {
	places := random.Perm(1 << 10)
	var number func(api.Term) api.Term
	number = func(x api.Term) api.Term {
		x.At, places = places[0], places[1:]
		return over(x, number)
	}
	return number(x)
}

// enough wants many of each ending.
func enough(t *testing.T, told map[api.Errno]int, many int, of ...api.Errno) {
	t.Helper()
	for _, code := range of {
		if told[code] < many {
			t.Errorf("too few of %v: %v", code, told)
		}
	}
}

// P11.1 and P11.2: every kind over kids of all sorts, with annotations of all sorts.
func TestEveryRow(t *testing.T) {
	random := rand.New(rand.NewSource(1))
	var parts []api.Term
	for _, text := range []string{`1`, `true`, `1:?`, `x`, `y`, `\z:int.z`, `\z:int.true`, `[1, true]`, `[1, 2]`, `inl{int+bool}1`, `inr{bool+int}2`, `x(1)`, `fst 1`, `1+true`} {
		parts = append(parts, term(text))
	}
	var some []api.Type
	for _, text := range []string{"?", "int", "bool", "int -> int", "int -> ?", "int * bool", "int + bool", "bool + int"} {
		some = append(some, typed(text))
	}
	told := map[api.Errno]int{}
	for _, outer := range everyKind()[:api.Cast] {
		for _, kids := range rows(parts, len(outer.Kids)) {
			for _, names := range [][2]string{{"x", "y"}, {"y", "x"}, {"x", "x"}} {
				for n := range some {
					x := outer
					x.Kids, x.Type, x.To = kids, some[n], some[random.Intn(len(some))]
					if x.Kind == api.Op {
						x.Name = [...]string{"+", "-", "*", "/", "<", "=", "<", "="}[n]
					} else {
						x.Name, x.Arg = names[0], names[1]
					}
					told[asRuled(t, numbered(random, x))]++
					if x.Kind == api.If || x.Kind == api.Case || x.Kind == api.Two || x.Kind == api.App {
						break // there is no annotation
					}
				}
			}
		}
	}
	enough(t, told, 400, api.OK, api.ErrName, api.ErrMatch, api.ErrAgree, api.ErrGradual)
}

// rows are all rows of so many of l.
func rows[T any](l []T, length int) [][]T {
	all := [][]T{nil}
	for range length {
		var more [][]T
		for _, row := range all {
			for _, x := range l {
				more = append(more, append(slices.Clone(row), x))
			}
		}
		all = more
	}
	return all
}

// P11.1 and P11.2: made-up terms, as they are, with annotations opened, and spoilt, with terms put for others, and with casts.
func TestManyTerms(t *testing.T) {
	g := newGrower(2)
	told := map[api.Errno]int{}
	for n := range 3000 {
		x := g.term(1 + n%6)
		for _, y := range []api.Term{x, annotated(x, g.spoilt), g.mixed(x), g.mixed(annotated(x, g.spoilt)), g.someOpened(x), g.someOpened(annotated(x, g.spoilt))} {
			told[asRuled(t, numbered(g.random, y))]++
		}
		told[asRuled(t, numbered(g.random, g.someCast(g.someOpened(x))))]++
	}
	enough(t, told, 500, api.OK, api.ErrName, api.ErrMatch, api.ErrAgree, api.ErrGradual, api.ErrTerm)
}

// P11.1 and P11.2: texts that may be told of.
func FuzzText(f *testing.F) {
	for _, text := range []string{`\x:int.x+1`, `\x:?.x`, `(\x:int.x)(true:?)`, `case inl{int+bool}1 of x.x | y.2`, `let f:int->int=\x:int.x in f(2)`, `rec f(x:int):bool.f(x)`, `if true then inl{int+(int*bool)}1 else inr{int+?}[x, fst y]`, `1:`} {
		f.Add(text)
	}
	f.Fuzz(func(t *testing.T, text string) {
		x, err := parse.Term(text)
		if err != nil {
			return
		}
		a, err := static.Type(x)
		want, fault := ruled(x)
		if fault != nil {
			failed(t, text, *fault, a, err)
		} else {
			told(t, text, want, a, err)
		}
		isStatic(t, x, fault == nil || fault.Code != api.ErrGradual)
	})
}
