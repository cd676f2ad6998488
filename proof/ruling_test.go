package proof_test

import (
	"maps"
	"slices"
	"strconv"
	"strings"
	"testing"

	"lychgate/api"
	"lychgate/check"
	"lychgate/order"
	"lychgate/parse"
	"lychgate/types"
)

// The rules' names, written down a second time.
const ruleNames = "Var Num Yes No Lam Rec App Let If Two Fst Snd Inl Inr Case Op Is Cast"

func ruleOf(kind int8) string { return strings.Fields(ruleNames)[kind] }

// The rules, written down a second time, as texts: what is asked of a term of each kind, one thing behind the other. A kid's type is called by its number from where it is asked on, the parts of what matches l and r; & is a Meet.
var table = [...]string{
	api.Var:  "is name",
	api.Num:  "is int",
	api.Yes:  "is bool",
	api.No:   "is bool",
	api.Lam:  "kid 0 Name Type; is Type -> 0",
	api.Rec:  "kid 0 Name Type->To Arg Type; agree 0 To; is Type -> To",
	api.App:  "kid 0; kid 1; match 0 ->; agree 1 l; is r",
	api.Let:  "kid 0; agree 0 Type; kid 1 Name Type; is 1",
	api.If:   "kid 0; kid 1; kid 2; agree 0 bool; agree 1 2; is 1 & 2",
	api.Two:  "kid 0; kid 1; is 0 * 1",
	api.Fst:  "kid 0; match 0 *; is l",
	api.Snd:  "kid 0; match 0 *; is r",
	api.Inl:  "kid 0; match Type +; agree 0 l; is l + r",
	api.Inr:  "kid 0; match Type +; agree 0 r; is l + r",
	api.Case: "kid 0; match 0 +; kid 1 Name l; kid 2 Arg r; agree 1 2; is 1 & 2",
	api.Op:   "kid 0; kid 1; agree 0 int; agree 1 int; is answer",
	api.Is:   "kid 0; agree 0 Type; is Type",
}

// A reading goes through the table for one term. It goes on behind what fails, as if that did not, and counts it.
type reading struct {
	t      api.Term
	around map[string]api.Type
	values map[string]api.Type
	p      *api.Proof
	fails  *int
}

// ruled is what would be the derivation of x if nothing failed, and how much fails.
func ruled(x api.Term) (p api.Proof, fails int) {
	return read(x, map[string]api.Type{}, &fails), fails
}

func read(x api.Term, around map[string]api.Type, fails *int) api.Proof {
	p := api.Proof{Rule: ruleOf(x.Kind)}
	r := reading{x, around, map[string]api.Type{"int": integer(), "bool": boolean(), "Type": x.Type, "To": x.To, "answer": integer()}, &p, fails}
	if x.Name == "<" || x.Name == "=" {
		r.values["answer"] = boolean()
	}
	if x.Kind == api.Var {
		a, ok := around[x.Name]
		r.values["name"] = a
		r.want(ok)
	}
	for step := range strings.SplitSeq(table[x.Kind], "; ") {
		r.step(strings.Fields(step))
	}
	r.want(types.Check(p.Type) == api.OK)
	return p
}

// want counts what does not hold.
func (r reading) want(holds bool) {
	if !holds {
		*r.fails++
	}
}

func (r reading) step(words []string) {
	switch words[0] {
	case "kid":
		r.kid(words[1], words[2:])
	case "agree":
		_, ok := order.Meet(r.values[words[1]], r.values[words[2]])
		r.want(ok)
	case "match":
		r.want(r.match(r.values[words[1]], words[2]))
	case "is":
		r.p.Type = r.value(words[1:])
	}
}

// kid asks a kid, with names around it; what each stands for is written without blanks.
func (r reading) kid(number string, names []string) {
	around := maps.Clone(r.around)
	for pair := range slices.Chunk(names, 2) {
		x := r.t.Name
		if pair[0] == "Arg" {
			x = r.t.Arg
		}
		around[x] = r.value(strings.Fields(strings.Replace(pair[1], "->", " -> ", 1)))
	}
	n, _ := strconv.Atoi(number)
	kid := read(r.t.Kids[n], around, r.fails)
	r.values[number] = kid.Type
	r.p.Kids = append(r.p.Kids, kid)
}

// match puts a's parts to l and r, if it may have that sign; else, they are unknown.
func (r reading) match(a api.Type, sign string) bool {
	r.values["l"], r.values["r"] = unknown(), unknown()
	if a.Kind == kinds[sign] {
		r.values["l"], r.values["r"] = a.Kids[0], a.Kids[1]
	}
	return a.Kind == kinds[sign] || a.Kind == api.Unknown
}

// kinds are the types' signs.
var kinds = map[string]int8{"->": api.Fun, "*": api.Pair, "+": api.Sum}

func (r reading) value(words []string) api.Type {
	a := r.values[words[0]]
	if len(words) == 1 {
		return a
	}
	b := r.values[words[2]]
	if words[1] != "&" {
		return of(kinds[words[1]], a, b)
	}
	if both, ok := order.Meet(a, b); ok {
		return both
	}
	return a
}

// asRuled wants of x what the second writing of the rules tells of it, and of check.Type the same, and tells whether it has a derivation. It leaves the test at the first fault: the next ones would tell the same.
func asRuled(t *testing.T, x api.Term) bool {
	t.Helper()
	p, fails := ruled(x)
	a, err := check.Type(x)
	if (err == nil) != (fails == 0) || err == nil && !types.Same(a, p.Type) {
		t.Errorf("%s: %s, %v; %s, fails %d", shortTerm(x), short(a), err, told(p), fails)
	}
	if fails == 0 {
		finds(t, x, p)
	} else {
		findsNone(t, x, api.ErrProof)
		proves(t, p, x, false)
		proves(t, by(p.Rule, unknown(), p.Kids...), x, false)
	}
	if t.Failed() {
		t.FailNow()
	}
	return fails == 0
}

// P10.1 to P10.3: every kind over kids of all sorts, with annotations of all sorts.
func TestEveryRow(t *testing.T) {
	g := newGrower(1)
	var parts []api.Term
	for _, text := range []string{`1`, `true`, `1:?`, `x`, `y`, `\z:?.z`, `\z:int.true`, `[1, true]`, `inl{int+bool}1`, `inr{?}true`, `x(1)`, `1+true`} {
		parts = append(parts, term(text))
	}
	var some []api.Type
	for _, text := range []string{"?", "int", "bool", "? -> int", "int -> ?", "int * ?", "? + bool", "int + ?"} {
		some = append(some, typed(text))
	}
	told := [2]int{}
	try := func(x api.Term) {
		if asRuled(t, x) {
			told[1]++
		}
		told[0]++
	}
	for _, outer := range everyKind()[:api.Cast] {
		for _, kids := range rows(parts, len(outer.Kids)) {
			for n := range some {
				x := outer
				x.Kids, x.Type, x.To = kids, some[n], one(g, some...)
				if x.Kind == api.Op {
					x.Name = [...]string{"+", "-", "*", "/", "<", "=", "<", "="}[n]
				} else {
					x.Name, x.Arg = one(g, "x", "y"), one(g, "x", "y")
				}
				try(x)
				try(api.Term{Kind: api.Rec, Name: "x", Arg: "y", Type: one(g, some...), To: one(g, some...), Kids: []api.Term{x}})
				try(api.Term{Kind: api.Lam, Name: "x", Type: one(g, some...), Kids: []api.Term{{Kind: api.Lam, Name: "y", Kids: []api.Term{x}}}})
				if x.Kind == api.If || x.Kind == api.Case || x.Kind == api.Two || x.Kind == api.App {
					break // there is no annotation
				}
			}
		}
	}
	if told[0] < 8000 || told[1] < 2000 {
		t.Errorf("too few: %v", told)
	}
}

// rows are all rows of so many of l.
func rows[T any](l []T, length int) [][]T {
	all := [][]T{nil}
	for range length {
		var more [][]T
		for _, row := range all {
			for _, x := range l {
				more = append(more, append(slices.Clone(row), x))
			}
		}
		all = more
	}
	return all
}

// P10.1 to P10.3: made-up terms, as they are, with annotations opened, and spoilt.
func TestManyTerms(t *testing.T) {
	g := newGrower(2)
	told := map[bool]int{}
	for n := range 8000 {
		x := g.term(1 + n%6)
		told[asRuled(t, x)]++
		told[asRuled(t, annotated(x, g.opened))]++
		told[asRuled(t, annotated(x, g.spoilt))]++
		told[asRuled(t, g.mixed(x))]++
	}
	if told[true] < 10000 || told[false] < 5000 {
		t.Errorf("too few: %v", told)
	}
}

// P10.1 to P10.4: texts that may be told of, and their derivations with something changed.
func FuzzText(f *testing.F) {
	for n, text := range []string{`\x:?.x+1`, `(\x:int.x)(true)`, `case (1:?) of x.x | y.2`, `let f:int->int=\x:?.x in f(2)`, `rec f(x:int):bool.f(x)`, `if true then inl{?}1 else inr{int+?}[x, fst y]`, `1:`} {
		f.Add(text, int64(n))
	}
	f.Fuzz(func(t *testing.T, text string, seed int64) {
		x, err := parse.Term(text)
		if err != nil {
			return
		}
		p, fails := ruled(x)
		if fails > 0 {
			findsNone(t, x, api.ErrProof)
		} else {
			finds(t, x, p)
		}
		for range 10 {
			q := newGrower(seed).changed(p)
			proves(t, q, x, fails == 0 && same(p, q))
			seed++
		}
	})
}
