package check_test

import (
	"maps"
	"math/rand"
	"slices"
	"strconv"
	"strings"
	"testing"

	"lychgate/api"
	"lychgate/check"
	"lychgate/order"
	"lychgate/types"
)

// The chapter's table, written down a second time, as texts: what is asked of a term of each kind, one thing behind the other. A kid's type is called by its number from where it is asked on, the parts of what matches l and r; & is a Meet.
var table = [...]string{
	api.Num:  "is int",
	api.Yes:  "is bool",
	api.No:   "is bool",
	api.Lam:  "kid 0 Name Type; is Type -> 0",
	api.Rec:  "kid 0 Name Type->To Arg Type; agree 0 To; is Type -> To",
	api.App:  "kid 0; kid 1; match 0 ->; agree 1 l; is r",
	api.Let:  "kid 0; agree 0 Type; kid 1 Name Type; is 1",
	api.If:   "kid 0; kid 1; kid 2; agree 0 bool; agree 1 2; is 1 & 2",
	api.Two:  "kid 0; kid 1; is 0 * 1",
	api.Fst:  "kid 0; match 0 *; is l",
	api.Snd:  "kid 0; match 0 *; is r",
	api.Inl:  "kid 0; match Type +; agree 0 l; is l + r",
	api.Inr:  "kid 0; match Type +; agree 0 r; is l + r",
	api.Case: "kid 0; match 0 +; kid 1 Name l; kid 2 Arg r; agree 1 2; is 1 & 2",
	api.Op:   "kid 0; kid 1; agree 0 int; agree 1 int; is answer",
	api.Is:   "kid 0; agree 0 Type; is Type",
}

// A reading goes through the table for one term.
type reading struct {
	t      api.Term
	around map[string]api.Type
	values map[string]api.Type
	told   map[int]api.Type // what was told of each term, by its place
}

// ruled is what the table tells of t, and of each term in it that was told of, by its place.
func ruled(t api.Term) (api.Type, *api.Fault, map[int]api.Type) {
	told := map[int]api.Type{}
	a, f := read(t, map[string]api.Type{}, told)
	return a, f, told
}

func read(t api.Term, around map[string]api.Type, told map[int]api.Type) (api.Type, *api.Fault) {
	a, f := reading{t, around, map[string]api.Type{"int": integer(), "bool": boolean(), "Type": t.Type, "To": t.To, "answer": integer()}, told}.through()
	if f != nil {
		return api.Type{}, f
	}
	if e := types.Check(a); e != api.OK {
		return api.Type{}, &api.Fault{Code: e, At: t.At}
	}
	told[t.At] = a
	return a, nil
}

func (r reading) through() (api.Type, *api.Fault) {
	if r.t.Kind == api.Var {
		if a, ok := r.around[r.t.Name]; ok {
			return a, nil
		}
		return api.Type{}, &api.Fault{Code: api.ErrName, At: r.t.At, Word: r.t.Name}
	}
	if r.t.Name == "<" || r.t.Name == "=" {
		r.values["answer"] = boolean()
	}
	for step := range strings.SplitSeq(table[r.t.Kind], "; ") {
		words := strings.Fields(step)
		switch words[0] {
		case "kid":
			if f := r.kid(words[1], words[2:]); f != nil {
				return api.Type{}, f
			}
		case "agree":
			if _, ok := order.Meet(r.values[words[1]], r.values[words[2]]); !ok {
				return api.Type{}, &api.Fault{Code: api.ErrAgree, At: r.t.At}
			}
		case "match":
			if !r.match(r.values[words[1]], words[2]) {
				return api.Type{}, &api.Fault{Code: api.ErrMatch, At: r.t.At}
			}
		case "is":
			return r.value(words[1:]), nil
		}
	}
	panic("a row without an end")
}

// kid asks a kid, with names around it; what each stands for is written without blanks.
func (r reading) kid(number string, names []string) *api.Fault {
	around := maps.Clone(r.around)
	for pair := range slices.Chunk(names, 2) {
		x := r.t.Name
		if pair[0] == "Arg" {
			x = r.t.Arg
		}
		around[x] = r.value(strings.Fields(strings.Replace(pair[1], "->", " -> ", 1)))
	}
	n, _ := strconv.Atoi(number)
	a, f := read(r.t.Kids[n], around, r.told)
	r.values[number] = a
	return f
}

// match puts a's parts to l and r, if it may have that sign.
func (r reading) match(a api.Type, sign string) bool {
	switch a.Kind {
	case api.Unknown:
		r.values["l"], r.values["r"] = unknown(), unknown()
	case kinds[sign]:
		r.values["l"], r.values["r"] = a.Kids[0], a.Kids[1]
	default:
		return false
	}
	return true
}

// kinds are the types' signs.
var kinds = map[string]int8{"->": api.Fun, "*": api.Pair, "+": api.Sum}

func (r reading) value(words []string) api.Type {
	a := r.values[words[0]]
	if len(words) == 1 {
		return a
	}
	b := r.values[words[2]]
	if words[1] == "&" {
		both, _ := order.Meet(a, b)
		return both
	}
	return of(kinds[words[1]], a, b)
}

// asRuled wants of a term what the second writing of the rules tells of it, and tells how it ended. It leaves the test at the first fault: the next ones would tell the same.
func asRuled(t *testing.T, x api.Term) api.Errno {
	t.Helper()
	want, f, _ := ruled(x)
	code := api.OK
	if f == nil {
		takes(t, x, want)
	} else {
		refuses(t, x, *f)
		code = f.Code
	}
	if t.Failed() {
		t.FailNow()
	}
	return code
}

// numbered is x with each term in it at a place of its own, in an order that tells nothing.
func numbered(random *rand.Rand, x api.Term) api.Term {
	places := random.Perm(1 << 10)
	var number func(api.Term) api.Term
	number = func(x api.Term) api.Term {
		x.At, places = places[0], places[1:]
		kids := x.Kids
		x.Kids = nil
		for _, kid := range kids {
			x.Kids = append(x.Kids, number(kid))
		}
		return x
	}
	return number(x)
}

// enough wants many of each ending.
func enough(t *testing.T, told map[api.Errno]int, many int, of ...api.Errno) {
	t.Helper()
	for _, code := range of {
		if told[code] < many {
			t.Errorf("too few of %v: %v", code, told)
		}
	}
}

// P9.1: every kind over kids of all sorts, with annotations of all sorts.
func TestEveryRow(t *testing.T) {
	random := rand.New(rand.NewSource(1))
	var parts []api.Term
	for _, text := range []string{`1`, `true`, `1:?`, `x`, `y`, `\z:?.z`, `\z:int.z`, `\z:?.true`, `[1, true]`, `[1:?, 2]`, `inl{int+bool}1`, `inr{?}true`, `x(1)`, `fst 1`, `1+true`} {
		parts = append(parts, term(text))
	}
	var some []api.Type
	for _, text := range []string{"?", "int", "bool", "? -> int", "int -> ?", "int * ?", "? + bool", "int + ?"} {
		some = append(some, typed(text))
	}
	told := map[api.Errno]int{}
	for _, outer := range everyKind()[:api.Cast] {
		for _, kids := range rows(parts, len(outer.Kids)) {
			for _, names := range [][2]string{{"x", "y"}, {"y", "x"}, {"x", "x"}} {
				for n := range some {
					x := outer
					x.Kids, x.Type, x.To = kids, some[n], some[random.Intn(len(some))]
					if x.Kind == api.Op {
						x.Name = [...]string{"+", "-", "*", "/", "<", "=", "<", "="}[n]
					} else {
						x.Name, x.Arg = names[0], names[1]
					}
					told[asRuled(t, numbered(random, x))]++
					if x.Kind == api.If || x.Kind == api.Case || x.Kind == api.Two || x.Kind == api.App {
						break // there is no annotation
					}
				}
			}
		}
	}
	enough(t, told, 1000, api.OK, api.ErrName, api.ErrMatch, api.ErrAgree)
}

// rows are all rows of so many of l.
func rows[T any](l []T, length int) [][]T {
	all := [][]T{nil}
	for range length {
		var more [][]T
		for _, row := range all {
			for _, x := range l {
				more = append(more, append(slices.Clone(row), x))
			}
		}
		all = more
	}
	return all
}

// P9.1: made-up terms, as they are, with annotations opened, and spoilt.
func TestManyTerms(t *testing.T) {
	g := newGrower(2)
	told := map[api.Errno]int{}
	for n := range 15000 {
		x := g.term(1 + n%6)
		told[asRuled(t, numbered(g.random, x))]++
		told[asRuled(t, numbered(g.random, annotated(x, g.opened)))]++
		told[asRuled(t, numbered(g.random, annotated(x, g.spoilt)))]++
		told[asRuled(t, numbered(g.random, g.mixed(x)))]++
	}
	enough(t, told, 2000, api.OK, api.ErrName, api.ErrMatch, api.ErrAgree)
}

// P9.1 and P9.2: texts that may be told of.
func FuzzText(f *testing.F) {
	for _, text := range []string{`\x:?.x+1`, `(\x:int.x)(true)`, `case (1:?) of x.x | y.2`, `let f:int->int=\x:?.x in f(2)`, `rec f(x:int):bool.f(x)`, `if true then inl{?}1 else inr{int+?}[x, fst y]`, `1:`} {
		f.Add(text)
	}
	f.Fuzz(func(t *testing.T, text string) {
		a, err := check.Text(text)
		x, notRead := parsed(text)
		if notRead != nil {
			failed(t, text, *notRead, a, err)
			return
		}
		if want, fault, _ := ruled(x); fault != nil {
			failed(t, text, *fault, a, err)
		} else {
			told(t, text, want, a, err)
		}
	})
}
