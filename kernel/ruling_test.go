package kernel_test

import (
	"maps"
	"slices"
	"strings"
	"testing"

	"lychgate/agree"
	"lychgate/api"
	"lychgate/insert"
	"lychgate/parse"
	"lychgate/samples"
	"lychgate/terms"
	"lychgate/types"
)

// The rules, written down a second time: what is asked of a term of each kind, in its order. T1 is the type of the first kid; its parts are l and r, those of T and U, which are Type and To, likewise. What is bound in a kid stands ahead of it. What is told comes last.
var table = [...]string{
	api.Var:  "name",
	api.Num:  "int",
	api.Yes:  "bool",
	api.No:   "bool",
	api.Lam:  "Name:T 1; T->T1",
	api.Rec:  "Name:T->U Arg:T 1; T1=U; T->U",
	api.App:  "1; 2; T1:Fun; T2=l; r",
	api.Let:  "1; T1=T; Name:T 2; T2",
	api.If:   "1; 2; 3; T1=bool; T2=T3; T2",
	api.Two:  "1; 2; T1*T2",
	api.Fst:  "1; T1:Pair; l",
	api.Snd:  "1; T1:Pair; r",
	api.Inl:  "1; T:Sum; T1=l; T",
	api.Inr:  "1; T:Sum; T1=r; T",
	api.Case: "1; T1:Sum; Name:l 2; Arg:r 3; T2=T3; T2",
	api.Op:   "1; 2; T1=int; T2=int; op",
	api.Cast: "1; T1=T; T~U; U",
}

// ruled is the type of u, or what is wrong with it.
func ruled(u api.Term) (api.Type, api.Errno) {
	if e := terms.Check(u); e != api.OK {
		return api.Type{}, e
	}
	if samples.Count(u, api.Is) > 0 {
		return api.Type{}, api.ErrTerm
	}
	return judged(u, map[string]api.Type{})
}

// judged is ruled of a term that is one, with what is around it.
func judged(u api.Term, around map[string]api.Type) (api.Type, api.Errno) {
	values := map[string]api.Type{"int": integer(), "bool": boolean(), "op": integer(), "T": u.Type, "U": u.To}
	if u.Name == "<" || u.Name == "=" {
		values["op"] = boolean()
	}
	if a, ok := around[u.Name]; ok {
		values["name"] = a
	}
	row := strings.Split(table[u.Kind], "; ")
	for _, step := range row[:len(row)-1] {
		if e := ask(u, around, values, step); e != api.OK {
			return api.Type{}, e
		}
	}
	a, ok := value(values, row[len(row)-1])
	if !ok {
		return api.Type{}, api.ErrCast // there is no such name
	}
	if e := types.Check(a); e != api.OK {
		return api.Type{}, e
	}
	return a, api.OK
}

// ask asks one thing of u: for a kid's type, for parts, or whether two types are the same, or agree.
func ask(u api.Term, around, values map[string]api.Type, step string) api.Errno {
	kinds := map[string]int8{"Fun": api.Fun, "Pair": api.Pair, "Sum": api.Sum}
	words := strings.Fields(step)
	if last := words[len(words)-1]; len(last) == 1 && last >= "1" && last <= "3" {
		within := maps.Clone(around)
		for _, word := range words[:len(words)-1] {
			field, ofName, _ := strings.Cut(word, ":")
			within[map[string]string{"Name": u.Name, "Arg": u.Arg}[field]], _ = value(values, ofName)
		}
		a, e := judged(u.Kids[last[0]-'1'], within)
		values["T"+last] = a
		return e
	}
	holds := false
	if left, right, ok := strings.Cut(step, ":"); ok {
		if a := values[left]; a.Kind == kinds[right] {
			values["l"], values["r"], holds = a.Kids[0], a.Kids[1], true
		}
	} else if left, right, ok := strings.Cut(step, "="); ok {
		holds = types.Same(values[left], values[right])
	} else if left, right, ok := strings.Cut(step, "~"); ok {
		holds = agree.Agree(values[left], values[right])
	}
	if !holds {
		return api.ErrCast
	}
	return api.OK
}

// value is what a word of the table stands for.
func value(values map[string]api.Type, word string) (api.Type, bool) {
	for sign, kind := range map[string]int8{"->": api.Fun, "*": api.Pair} {
		if left, right, ok := strings.Cut(word, sign); ok {
			return of(kind, values[left], values[right]), true
		}
	}
	a, ok := values[word]
	return a, ok
}

// asRuled wants of a term what the second writing of the rules tells, and tells how it ended. It leaves the test at the first fault: the next ones would tell the same.
func asRuled(t *testing.T, u api.Term) api.Errno {
	t.Helper()
	a, e := ruled(u)
	told(t, u, a, e)
	if t.Failed() {
		t.FailNow()
	}
	return e
}

// enough wants many of each ending.
func enough(t *testing.T, ended map[api.Errno]int, many int, of ...api.Errno) {
	t.Helper()
	for _, code := range of {
		if ended[code] < many {
			t.Errorf("too few of %v: %v", code, ended)
		}
	}
}

// P13.1: every kind over kids of all sorts, with types of all sorts, below a Lam of an unknown x.
func TestEveryRow(t *testing.T) {
	g, ended := newGrower(1), map[api.Errno]int{}
	var parts []api.Term
	for _, text := range []string{`1`, `true`, `1:int:?`, `x`, `\z:?.z`, `\z:int.z`, `[1, true]`, `[x, 2]`, `inl{int+bool}1`, `inr{?+bool}true`, `y`, `fst x`, `1:int:bool`} {
		parts = append(parts, term(text))
	}
	var some []api.Type
	for _, text := range []string{"?", "int", "bool", "? -> ?", "int -> int", "int * bool", "? * int", "? + bool", "int + bool"} {
		some = append(some, typed(text))
	}
	for _, outer := range samples.EveryKind() {
		for _, kids := range samples.Rows(parts, len(outer.Kids)) {
			for _, names := range [][2]string{{"x", "y"}, {"y", "x"}, {"x", "x"}} {
				for n := range some {
					u := outer
					u.Kids, u.Type, u.To = kids, some[n], samples.One(g, some...)
					if u.Kind == api.Op {
						u.Name = samples.One(g, "+", "-", "*", "/", "<", "=")
					} else {
						u.Name, u.Arg = names[0], names[1]
					}
					ended[asRuled(t, api.Term{Kind: api.Lam, Name: "x", Kids: []api.Term{u}})]++
					if slices.Contains([]int8{api.If, api.Case, api.Two, api.App, api.Fst, api.Snd}, u.Kind) {
						break // there is no type
					}
				}
			}
		}
	}
	enough(t, ended, 300, api.OK, api.ErrTerm, api.ErrCast)
}

// P13.1: made-up terms, as they are, with types spoilt, with terms put for others, and with what is no cast term in them.
func TestManyTerms(t *testing.T) {
	g, ended, casts := newGrower(2), map[api.Errno]int{}, 0
	for n := range 4000 {
		u := g.Term(1 + n%6)
		casts += samples.Count(u, api.Cast)
		if e := asRuled(t, u); e != api.OK {
			t.Fatal("the test's own term:", shortOf(u), e)
		}
		for _, v := range []api.Term{samples.Annotated(u, somewhat(g)), g.Mixed(u), g.Mixed(samples.Annotated(u, somewhat(g))), marred(g, u)} {
			ended[asRuled(t, v)]++
		}
	}
	enough(t, ended, 1000, api.OK, api.ErrTerm, api.ErrCast)
	if casts < 10000 {
		t.Errorf("only %d Casts", casts)
	}
}

// somewhat is what changes parts of types, now and then; most often what comes agrees with what was there.
func somewhat(g *samples.Grower) func(api.Type) api.Type {
	var change func(api.Type) api.Type
	change = func(a api.Type) api.Type {
		switch g.Intn(24) {
		case 0, 1:
			return g.Agreeing(a)
		case 2:
			return g.SomeType(2)
		}
		return samples.Spread(a, change)
	}
	return change
}

// marred is u, now and then with what is no cast term in it.
func marred(g *samples.Grower, u api.Term) api.Term {
	if g.Intn(12) == 0 {
		a := g.SomeType(2)
		return samples.One(g, api.Term{Kind: api.Is, Type: a, Kids: []api.Term{u}}, cast(a, a, 0, u), cast(a, of(api.Fun, a), 1, u))
	}
	return samples.Over(u, func(kid api.Term) api.Term { return marred(g, kid) })
}

// P13.1: what may come out of a text, as the text's term is, with a Cast for each two Is, and with casts put in.
func FuzzText(f *testing.F) {
	for _, text := range []string{`(\x:?.x+1)(2)`, `(1:?)(2)`, `inl{?}true`, `if true then 1 else (2:?)`, `1:int:?:?:bool`, `case (1:?) of x.x | y.2`, `let f:int->int=\x:?.x in f(2)`, `rec f(x:int):?.f(x)`, `case inl{int+?}1:int+?:?+? of x.x:?:int | y.2`, `1:`} {
		f.Add(text)
	}
	f.Fuzz(func(t *testing.T, text string) {
		x, err := parse.Term(text)
		if err != nil {
			return
		}
		asRuled(t, x)
		asRuled(t, samples.Casting(x))
		if u, _, err := insert.Term(x); err == nil {
			asRuled(t, u)
		}
	})
}
