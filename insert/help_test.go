package insert_test

import (
	"errors"
	"fmt"
	"slices"
	"strconv"
	"strings"
	"testing"

	"lychgate/api"
	"lychgate/insert"
	"lychgate/parse"
	"lychgate/scan"
	"lychgate/show"
	"lychgate/types"
)

func of(kind int8, kids ...api.Type) api.Type { return api.Type{Kind: kind, Kids: kids} }

func unknown() api.Type { return of(api.Unknown) }

func integer() api.Type { return of(api.Int) }

func boolean() api.Type { return of(api.Bool) }

// node is a term that has no names, numbers and types.
func node(kind int8, at int, kids ...api.Term) api.Term {
	return api.Term{Kind: kind, At: at, Kids: kids}
}

// name is a Var.
func name(x string, at int) api.Term { return api.Term{Kind: api.Var, Name: x, At: at} }

// typed is the type that a text tells.
func typed(text string) api.Type {
	words, err := scan.All(text)
	if err != nil {
		panic(err)
	}
	a, next, err := types.Read(words, 0)
	if err != nil || words[next].Kind != api.WordEnd {
		panic(text)
	}
	return a
}

// term is the term that a text tells.
func term(text string) api.Term {
	x, err := parse.Term(text)
	if err != nil {
		panic(text + ": " + err.Error())
	}
	return x
}

// chain is a type so many types deep, each part of which but the last one has int for the other part.
func chain(kind int8, depth int, right bool, bottom api.Type) api.Type {
	for range depth - types.Depth(bottom) {
		if right {
			bottom = of(kind, integer(), bottom)
		} else {
			bottom = of(kind, bottom, integer())
		}
	}
	return bottom
}

// balanced is a type with so many leaves, no deeper than it must be: it has twice as many nodes, less one.
func balanced(kind int8, leaves int, leaf api.Type) api.Type {
	if leaves == 1 {
		return leaf
	}
	return of(kind, balanced(kind, leaves-leaves/2, leaf), balanced(kind, leaves/2, leaf))
}

// full is a type of 2^depth - 1 nodes, whose parts are shared.
func full(kind int8, depth int, bottom api.Type) api.Type {
	for range depth - 1 {
		bottom = of(kind, bottom, bottom)
	}
	return bottom
}

// endless is a type that lies within itself.
func endless(kind int8) api.Type {
	kids := make([]api.Type, 2)
	kids[0], kids[1] = integer(), of(kind, kids...)
	return kids[1]
}

// everyKind is a term of each kind, that of Cast last.
func everyKind() []api.Term {
	var all []api.Term
	for _, text := range []string{`x`, `1`, `true`, `false`, `\x:?.x`, `rec f(x:?):?.x`, `x(y)`, `let x:?=y in x`, `if x then y else z`, `[x, y]`, `fst x`, `snd x`, `inl {?} x`, `inr {?} x`, `case x of y.y | z.z`, `x + y`, `x : ?`} {
		all = append(all, term(text))
	}
	return append(all, api.Term{Kind: api.Cast, Label: 1, Type: integer(), To: unknown(), Kids: []api.Term{term(`x`)}})
}

// around are the terms in which x stands as each kid of each kind.
func around(x api.Term) []api.Term {
	all := []api.Term{x}
	for _, outer := range everyKind() {
		for n := range outer.Kids {
			y := outer
			y.Kids = slices.Clone(outer.Kids)
			y.Kids[n] = x
			all = append(all, y)
		}
	}
	return all
}

// allOf is x, and all terms within it, each ahead of its kids.
func allOf(x api.Term) []api.Term {
	all := []api.Term{x}
	for _, kid := range x.Kids {
		all = append(all, allOf(kid)...)
	}
	return all
}

// castsOf is how many Casts there are in x.
func castsOf(x api.Term) int {
	count := 0
	for _, y := range allOf(x) {
		if y.Kind == api.Cast {
			count++
		}
	}
	return count
}

// short is what a looks like: its text, or, of one that is none, how it begins.
func short(a api.Type) string {
	if text, e := types.Text(a); e == api.OK {
		return fmt.Sprintf("%.200s", text)
	}
	if types.Check(a) == api.ErrTooBig {
		return "one too great"
	}
	return fmt.Sprintf("%.200s", fmt.Sprint(a))
}

// shortTerm is what x, without Casts, looks like.
func shortTerm(x api.Term) string {
	text, e := show.Text(x)
	if e != api.OK {
		return e.Error()
	}
	return fmt.Sprintf("%.300s", text)
}

func text(a api.Type) string {
	text, e := types.Text(a)
	if e != api.OK {
		panic(e)
	}
	return text
}

// written is what a cast term looks like, in brackets wherever it stands beside words.
func written(u api.Term) string {
	kid := func(n int) string {
		if len(u.Kids[n].Kids) == 0 {
			return written(u.Kids[n])
		}
		return "(" + written(u.Kids[n]) + ")"
	}
	bare := func(n int) string { return written(u.Kids[n]) }
	switch u.Kind {
	case api.Var:
		return u.Name
	case api.Num:
		return strconv.FormatInt(u.Num, 10)
	case api.Yes:
		return "true"
	case api.No:
		return "false"
	case api.Lam:
		return `\` + u.Name + ":" + text(u.Type) + "." + bare(0)
	case api.Rec:
		return "rec " + u.Name + "(" + u.Arg + ":" + text(u.Type) + "):" + text(u.To) + "." + bare(0)
	case api.App:
		return kid(0) + "(" + bare(1) + ")"
	case api.Let:
		return "let " + u.Name + ":" + text(u.Type) + "=" + bare(0) + " in " + bare(1)
	case api.If:
		return "if " + bare(0) + " then " + bare(1) + " else " + bare(2)
	case api.Two:
		return "[" + bare(0) + ", " + bare(1) + "]"
	case api.Fst:
		return "fst " + kid(0)
	case api.Snd:
		return "snd " + kid(0)
	case api.Inl:
		return "inl{" + text(u.Type) + "}" + kid(0)
	case api.Inr:
		return "inr{" + text(u.Type) + "}" + kid(0)
	case api.Case:
		return "case " + bare(0) + " of " + u.Name + "." + bare(1) + " | " + u.Arg + "." + bare(2)
	case api.Op:
		return kid(0) + u.Name + kid(1)
	case api.Cast:
		return "<" + text(u.Type) + " => " + text(u.To) + ">" + strconv.Itoa(u.Label) + " " + kid(0)
	}
	return "what is no cast term"
}

// exactly tells whether x and y are the same in all fields, At too, and what does not count.
func exactly(x, y api.Term) bool {
	return x.Kind == y.Kind && x.Name == y.Name && x.Arg == y.Arg && x.Num == y.Num && x.Label == y.Label && x.At == y.At &&
		types.Same(x.Type, y.Type) && types.Same(x.To, y.To) && slices.EqualFunc(x.Kids, y.Kids, exactly)
}

// becomes wants of x a cast term, exactly, and a type.
func becomes(t *testing.T, x, want api.Term, ofType api.Type) {
	t.Helper()
	u, a, err := insert.Term(x)
	if err != nil || !exactly(u, want) || !types.Same(a, ofType) {
		t.Errorf("%s: %.600s of the type %s, %v; want %.600s of %s", shortTerm(x), written(u), short(a), err, written(want), short(ofType))
	}
}

// refuses wants a fault of x, and nothing beside it.
func refuses(t *testing.T, x api.Term, want api.Fault) {
	t.Helper()
	u, a, err := insert.Term(x)
	var f *api.Fault
	if !errors.As(err, &f) || *f != want || !errors.Is(err, want.Code) {
		t.Errorf("%s: %v; want %v", shortTerm(x), err, want.Error())
	}
	if !exactly(u, api.Term{}) || !types.Same(a, api.Type{}) {
		t.Errorf("%s: something beside %v", shortTerm(x), err)
	}
}

// becomesText wants a text's term to become what is written so, of that type.
func becomesText(t *testing.T, source, want, ofType string) {
	t.Helper()
	u, a, err := insert.Term(term(source))
	if err != nil || written(u) != want || text(a) != ofType {
		t.Errorf("%s: %s of the type %s, %v; want %s of %s", source, written(u), short(a), err, want, ofType)
	}
}

// refusesText wants a fault of the term of a text. It is at the mark ^ ahead of a word; the mark is no part of the text.
func refusesText(t *testing.T, marked string, code api.Errno, word string) {
	t.Helper()
	refuses(t, term(strings.Replace(marked, "^", "", 1)), api.Fault{Code: code, At: strings.Index(marked, "^"), Word: word})
}
