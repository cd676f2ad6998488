package insert_test

import (
	"errors"
	"math/rand"
	"strings"
	"testing"

	"lychgate/api"
	"lychgate/check"
	"lychgate/insert"
	"lychgate/kernel"
	"lychgate/parse"
	"lychgate/proof"
	"lychgate/samples"
	"lychgate/terms"
	"lychgate/types"
)

// The chapter's table, written down a second time: to what the kids of a term of each kind are put, from the left; those that are left over are as they become. l and r are the parts of what matches, Meet is what the term itself has for a type.
var table = [...]string{
	api.Rec:  "To",
	api.App:  "l->r l",
	api.Let:  "Type",
	api.If:   "bool Meet Meet",
	api.Fst:  "l*r",
	api.Snd:  "l*r",
	api.Inl:  "l",
	api.Inr:  "r",
	api.Case: "l+r Meet Meet",
	api.Op:   "int int",
	api.Is:   "Type",
}

// ruled is what x is to become, and its type. What all terms in it are of stands in its derivation.
func ruled(x api.Term) (api.Term, api.Type, *api.Fault) {
	_, err := check.Type(x)
	var f *api.Fault
	if errors.As(err, &f) {
		return api.Term{}, api.Type{}, f
	}
	p, e := proof.Find(x)
	if e != api.OK {
		panic(e)
	}
	u, labelled := put(x, p)
	if !labelled {
		return api.Term{}, api.Type{}, &api.Fault{Code: api.ErrArg}
	}
	if e := terms.Check(u); e != api.OK {
		return api.Term{}, api.Type{}, &api.Fault{Code: e}
	}
	return u, p.Type, nil
}

// put is what x becomes by the table, and whether all that is to be cast stands where it may.
func put(x api.Term, p api.Proof) (u api.Term, labelled bool) {
	u = terms.Bare(x)
	u.At, u.Kids, labelled = x.At, nil, true
	values := valuesOf(x, p)
	if x.Kind == api.Inl || x.Kind == api.Inr {
		u.Type = of(api.Sum, values["l"], values["r"])
	}
	var row []string
	if int(x.Kind) < len(table) {
		row = strings.Fields(table[x.Kind])
	}
	for n, kid := range x.Kids {
		v, well := put(kid, p.Kids[n])
		labelled = labelled && well
		if n < len(row) {
			if to := value(values, row[n]); text(to) != text(p.Kids[n].Type) {
				labelled = labelled && kid.At >= 0 && kid.At < 1<<31-1
				v = api.Term{Kind: api.Cast, Type: p.Kids[n].Type, To: to, Label: kid.At + 1, At: kid.At, Kids: []api.Term{v}}
			}
		}
		u.Kids = append(u.Kids, v)
	}
	if x.Kind == api.Is {
		return u.Kids[0], labelled
	}
	return u, labelled
}

// valuesOf are what the table's words stand for.
func valuesOf(x api.Term, p api.Proof) map[string]api.Type {
	values := map[string]api.Type{"int": integer(), "bool": boolean(), "Type": x.Type, "To": x.To, "Meet": p.Type}
	matched := x.Type
	if x.Kind != api.Inl && x.Kind != api.Inr && len(p.Kids) > 0 {
		matched = p.Kids[0].Type
	}
	values["l"], values["r"] = unknown(), unknown()
	if len(matched.Kids) == 2 {
		values["l"], values["r"] = matched.Kids[0], matched.Kids[1]
	}
	return values
}

func value(values map[string]api.Type, word string) api.Type {
	switch word {
	case "l->r":
		return of(api.Fun, values["l"], values["r"])
	case "l*r":
		return of(api.Pair, values["l"], values["r"])
	case "l+r":
		return of(api.Sum, values["l"], values["r"])
	}
	return values[word]
}

// asRuled wants of a term what the second writing of the table tells of it, and tells how it ended, and how many Casts there are. It leaves the test at the first fault: the next ones would tell the same.
func asRuled(t *testing.T, x api.Term) (api.Errno, int) {
	t.Helper()
	want, a, f := ruled(x)
	code := api.OK
	if f == nil {
		becomes(t, x, want, a)
	} else {
		refuses(t, x, *f)
		code = f.Code
	}
	if t.Failed() {
		t.FailNow()
	}
	return code, castsOf(want)
}

// numbered is x with each term in it at a place of its own, in an order that tells nothing.
func numbered(random *rand.Rand, x api.Term) api.Term {
	places := random.Perm(1 << 10)
	var number func(api.Term) api.Term
	number = func(x api.Term) api.Term {
		x.At, places = places[0], places[1:]
		return over(x, number)
	}
	return number(x)
}

// A tally is how many terms ended how, and how many Casts there were in all.
type tally struct {
	ended map[api.Errno]int
	casts int
}

func (n *tally) note(code api.Errno, casts int) {
	if n.ended == nil {
		n.ended = map[api.Errno]int{}
	}
	n.ended[code]++
	n.casts += casts
}

// enough wants many of each ending, and of Casts.
func (n *tally) enough(t *testing.T, many int, of ...api.Errno) {
	t.Helper()
	for _, code := range of {
		if n.ended[code] < many {
			t.Errorf("too few of %v: %v", code, n.ended)
		}
	}
	if n.casts < many {
		t.Errorf("only %d Casts: %v", n.casts, n.ended)
	}
}

// P12.1: every kind over kids of all sorts, with annotations of all sorts, below a Lam of an unknown x.
func TestEveryRow(t *testing.T) {
	random := rand.New(rand.NewSource(1))
	var parts []api.Term
	for _, text := range []string{`1`, `true`, `1:?`, `x`, `\z:?.z`, `\z:int.z`, `\z:?.true`, `[1, true]`, `[1:?, 2]`, `inl{int+bool}1`, `inr{?}true`, `x(1)`, `fst x`, `1+x`} {
		y, err := parse.Term(text)
		if err != nil {
			t.Fatal(err)
		}
		parts = append(parts, y)
	}
	var some []api.Type
	for _, text := range []string{"?", "int", "bool", "? -> int", "int -> ?", "int * ?", "? + bool", "int + ?"} {
		some = append(some, typed(text))
	}
	var told tally
	for _, outer := range samples.EveryKind()[:api.Cast] {
		for _, kids := range samples.Rows(parts, len(outer.Kids)) {
			for _, names := range [][2]string{{"x", "y"}, {"y", "x"}, {"x", "x"}} {
				for n := range some {
					x := outer
					x.Kids, x.Type, x.To = kids, some[n], some[random.Intn(len(some))]
					if x.Kind == api.Op {
						x.Name = [...]string{"+", "-", "*", "/", "<", "=", "<", "="}[n]
					} else {
						x.Name, x.Arg = names[0], names[1]
					}
					x = api.Term{Kind: api.Lam, Name: "x", Kids: []api.Term{x}}
					told.note(asRuled(t, numbered(random, x)))
					if outer.Kind == api.If || outer.Kind == api.Case || outer.Kind == api.Two || outer.Kind == api.App {
						break // there is no annotation
					}
				}
			}
		}
	}
	told.enough(t, 1000, api.OK, api.ErrMatch, api.ErrAgree)
}

// P12.1: made-up terms, as they are, with annotations opened, and spoilt; with terms put for others, with places that no label tells, and with casts.
func TestManyTerms(t *testing.T) {
	g := newGrower(2)
	var told tally
	for n := range 4000 {
		x := g.Term(1 + n%6)
		opened := annotated(x, g.Opened)
		for _, y := range []api.Term{x, opened, g.someOpened(x), annotated(opened, g.Opened), annotated(opened, g.Spoilt), g.Mixed(opened)} {
			told.note(asRuled(t, numbered(g.random, y)))
		}
		told.note(asRuled(t, g.misplaced(numbered(g.random, opened))))
		told.note(asRuled(t, g.someCast(numbered(g.random, opened))))
	}
	told.enough(t, 500, api.OK, api.ErrName, api.ErrMatch, api.ErrAgree, api.ErrTerm, api.ErrArg)
}

// misplaced is x with some terms where no label can tell them.
func (g *grower) misplaced(x api.Term) api.Term {
	if g.Intn(5) == 0 {
		x.At = samples.One(g, -1, 1<<31-1, 1<<31-2, -1<<31)
	}
	return over(x, g.misplaced)
}

// P12.1: texts that may be told of.
func FuzzText(f *testing.F) {
	for _, text := range []string{`(\x:?.x+1)(2)`, `(1:?)(2)`, `inl{?}true`, `if true then 1 else (2:?)`, `case (1:?) of x.x | y.2`, `let f:int->int=\x:?.x in f(2)`, `rec f(x:int):?.f(x)`, `if true then inl{?}1 else inr{int+?}[x, fst y]`, `1:`} {
		f.Add(text)
	}
	f.Fuzz(func(t *testing.T, text string) {
		x, err := parse.Term(text)
		if err != nil {
			return
		}
		asRuled(t, x)
		u, a, err := insert.Term(x)
		if err != nil {
			return
		}
		if b, e := kernel.Type(u); e != api.ErrTooBig && e != api.ErrTooDeep && (e != api.OK || !types.Same(a, b)) {
			t.Errorf("%s: %s is no cast term of %s: %v", text, written(u), short(a), e)
		}
	})
}
