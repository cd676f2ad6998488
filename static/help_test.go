package static_test

import (
	"errors"
	"fmt"
	"slices"
	"strings"
	"testing"

	"lychgate/api"
	"lychgate/parse"
	"lychgate/scan"
	"lychgate/show"
	"lychgate/static"
	"lychgate/types"
)

func of(kind int8, kids ...api.Type) api.Type { return api.Type{Kind: kind, Kids: kids} }

func unknown() api.Type { return of(api.Unknown) }

func integer() api.Type { return of(api.Int) }

func boolean() api.Type { return of(api.Bool) }

// node is a term that has no names, numbers and types.
func node(kind int8, at int, kids ...api.Term) api.Term {
	return api.Term{Kind: kind, At: at, Kids: kids}
}

// name is a Var.
func name(x string, at int) api.Term { return api.Term{Kind: api.Var, Name: x, At: at} }

// typed is the type that a text tells.
func typed(text string) api.Type {
	words, err := scan.All(text)
	if err != nil {
		panic(err)
	}
	a, next, err := types.Read(words, 0)
	if err != nil || words[next].Kind != api.WordEnd {
		panic(text)
	}
	return a
}

// term is the term that a text tells.
func term(text string) api.Term {
	x, err := parse.Term(text)
	if err != nil {
		panic(text + ": " + err.Error())
	}
	return x
}

// chain is a type so many types deep, each part of which but the last one has int for the other part.
func chain(kind int8, depth int, right bool, bottom api.Type) api.Type {
	for range depth - types.Depth(bottom) {
		if right {
			bottom = of(kind, integer(), bottom)
		} else {
			bottom = of(kind, bottom, integer())
		}
	}
	return bottom
}

// full is a type of 2^depth - 1 nodes, whose parts are shared.
func full(kind int8, depth int, bottom api.Type) api.Type {
	for range depth - 1 {
		bottom = of(kind, bottom, bottom)
	}
	return bottom
}

// endless is a type that lies within itself.
func endless(kind int8) api.Type {
	kids := make([]api.Type, 2)
	kids[0], kids[1] = integer(), of(kind, kids...)
	return kids[1]
}

// everyKind is a term of each kind, that of Cast last.
func everyKind() []api.Term {
	var all []api.Term
	for _, text := range []string{`x`, `1`, `true`, `false`, `\x:?.x`, `rec f(x:?):?.x`, `x(y)`, `let x:?=y in x`, `if x then y else z`, `[x, y]`, `fst x`, `snd x`, `inl {?} x`, `inr {?} x`, `case x of y.y | z.z`, `x + y`, `x : ?`} {
		all = append(all, term(text))
	}
	return append(all, api.Term{Kind: api.Cast, Label: 1, Type: integer(), To: unknown(), Kids: []api.Term{term(`x`)}})
}

// around are the terms in which x stands as each kid of each kind.
func around(x api.Term) []api.Term {
	all := []api.Term{x}
	for _, outer := range everyKind() {
		for n := range outer.Kids {
			y := outer
			y.Kids = slices.Clone(outer.Kids)
			y.Kids[n] = x
			all = append(all, y)
		}
	}
	return all
}

// short is what a looks like: its text, or, of one that is none, how it begins.
func short(a api.Type) string {
	if text, e := types.Text(a); e == api.OK {
		return fmt.Sprintf("%.200s", text)
	}
	if types.Check(a) == api.ErrTooBig {
		return "one too great"
	}
	return fmt.Sprintf("%.200s", fmt.Sprint(a))
}

// shortTerm is what x looks like.
func shortTerm(x api.Term) string {
	text, e := show.Text(x)
	if e != api.OK {
		return e.Error()
	}
	return fmt.Sprintf("%.300s", text)
}

// told wants a type, and no error, as an answer.
func told(t *testing.T, what string, want, a api.Type, err error) {
	t.Helper()
	if err != nil || !types.Same(a, want) {
		t.Errorf("%.300s: %s, %v; want %s", what, short(a), err, short(want))
	}
}

// failed wants a fault, and no type, as an answer.
func failed(t *testing.T, what string, want api.Fault, a api.Type, err error) {
	t.Helper()
	var f *api.Fault
	if !errors.As(err, &f) || *f != want {
		t.Errorf("%.300s: %s, %v; want %v", what, short(a), err, want.Error())
	}
	if !errors.Is(err, want.Code) {
		t.Errorf("%.300s: %v is not %v", what, err, want.Code)
	}
	if a.Kind != 0 || len(a.Kids) != 0 {
		t.Errorf("%.300s: %s beside an error", what, short(a))
	}
}

// takes wants a type of a term, and the term to be static.
func takes(t *testing.T, x api.Term, want api.Type) {
	t.Helper()
	a, err := static.Type(x)
	told(t, shortTerm(x), want, a, err)
	isStatic(t, x, true)
}

// refuses wants a fault of a term that is static.
func refuses(t *testing.T, x api.Term, want api.Fault) {
	t.Helper()
	a, err := static.Type(x)
	failed(t, shortTerm(x), want, a, err)
	isStatic(t, x, true)
}

// notStatic wants a fault of a term that is not static.
func notStatic(t *testing.T, x api.Term, want api.Fault) {
	t.Helper()
	a, err := static.Type(x)
	failed(t, shortTerm(x), want, a, err)
	isStatic(t, x, false)
}

// isStatic wants Static to tell whether x is.
func isStatic(t *testing.T, x api.Term, want bool) {
	t.Helper()
	if static.Static(x) != want {
		t.Errorf("%s: static: %v", shortTerm(x), !want)
	}
}

// takesText wants a type of a text's term.
func takesText(t *testing.T, text, want string) {
	t.Helper()
	takes(t, term(text), typed(want))
}

// at is the fault of that code at the mark ^ of a text, and the text without it.
func at(code api.Errno, marked string) (api.Fault, string) {
	return api.Fault{Code: code, At: strings.Index(marked, "^")}, strings.Replace(marked, "^", "", 1)
}

// refusesText wants a fault of the term of a text, which is static. It is at the mark ^ ahead of a word; the mark is no part of the text.
func refusesText(t *testing.T, marked string, code api.Errno, word string) {
	t.Helper()
	want, text := at(code, marked)
	want.Word = word
	refuses(t, term(text), want)
}

// opensText wants ErrGradual of the term of a text, at the mark.
func opensText(t *testing.T, marked string) {
	t.Helper()
	want, text := at(api.ErrGradual, marked)
	notStatic(t, term(text), want)
}
