package insert_test

import (
	"errors"
	"strconv"
	"strings"
	"testing"

	"lychgate/api"
	"lychgate/insert"
	"lychgate/samples"
	"lychgate/types"
)

// What package samples makes.
var (
	of        = samples.Of
	typed     = samples.Type
	term      = samples.Term
	chain     = samples.Chain
	balanced  = samples.Balanced
	allOf     = samples.All
	over      = samples.Over
	annotated = samples.Annotated
	exactly   = samples.Exactly
	short     = samples.ShortType
	shortTerm = samples.ShortTerm
)

func unknown() api.Type { return of(api.Unknown) }

func integer() api.Type { return of(api.Int) }

func boolean() api.Type { return of(api.Bool) }

// node is a term that has no names, numbers and types.
func node(kind int8, at int, kids ...api.Term) api.Term {
	return api.Term{Kind: kind, At: at, Kids: kids}
}

// name is a Var.
func name(x string, at int) api.Term { return api.Term{Kind: api.Var, Name: x, At: at} }

func text(a api.Type) string {
	text, e := types.Text(a)
	if e != api.OK {
		panic(e)
	}
	return text
}

// castsOf is how many Casts there are in x.
func castsOf(x api.Term) int { return samples.Count(x, api.Cast) }

// written is what a cast term looks like, in brackets wherever it stands beside words.
func written(u api.Term) string {
	kid := func(n int) string {
		if len(u.Kids[n].Kids) == 0 {
			return written(u.Kids[n])
		}
		return "(" + written(u.Kids[n]) + ")"
	}
	bare := func(n int) string { return written(u.Kids[n]) }
	switch u.Kind {
	case api.Var:
		return u.Name
	case api.Num:
		return strconv.FormatInt(u.Num, 10)
	case api.Yes:
		return "true"
	case api.No:
		return "false"
	case api.Lam:
		return `\` + u.Name + ":" + text(u.Type) + "." + bare(0)
	case api.Rec:
		return "rec " + u.Name + "(" + u.Arg + ":" + text(u.Type) + "):" + text(u.To) + "." + bare(0)
	case api.App:
		return kid(0) + "(" + bare(1) + ")"
	case api.Let:
		return "let " + u.Name + ":" + text(u.Type) + "=" + bare(0) + " in " + bare(1)
	case api.If:
		return "if " + bare(0) + " then " + bare(1) + " else " + bare(2)
	case api.Two:
		return "[" + bare(0) + ", " + bare(1) + "]"
	case api.Fst:
		return "fst " + kid(0)
	case api.Snd:
		return "snd " + kid(0)
	case api.Inl:
		return "inl{" + text(u.Type) + "}" + kid(0)
	case api.Inr:
		return "inr{" + text(u.Type) + "}" + kid(0)
	case api.Case:
		return "case " + bare(0) + " of " + u.Name + "." + bare(1) + " | " + u.Arg + "." + bare(2)
	case api.Op:
		return kid(0) + u.Name + kid(1)
	case api.Cast:
		return "<" + text(u.Type) + " => " + text(u.To) + ">" + strconv.Itoa(u.Label) + " " + kid(0)
	}
	return "what is no cast term"
}

// becomes wants of x a cast term, exactly, and a type.
func becomes(t *testing.T, x, want api.Term, ofType api.Type) {
	t.Helper()
	u, a, err := insert.Term(x)
	if err != nil || !exactly(u, want) || !types.Same(a, ofType) {
		t.Errorf("%s: %.600s of the type %s, %v; want %.600s of %s", shortTerm(x), written(u), short(a), err, written(want), short(ofType))
	}
}

// refuses wants a fault of x, and nothing beside it.
func refuses(t *testing.T, x api.Term, want api.Fault) {
	t.Helper()
	u, a, err := insert.Term(x)
	var f *api.Fault
	if !errors.As(err, &f) || *f != want || !errors.Is(err, want.Code) {
		t.Errorf("%s: %v; want %v", shortTerm(x), err, want.Error())
	}
	if !exactly(u, api.Term{}) || !types.Same(a, api.Type{}) {
		t.Errorf("%s: something beside %v", shortTerm(x), err)
	}
}

// becomesText wants a text's term to become what is written so, of that type.
func becomesText(t *testing.T, source, want, ofType string) {
	t.Helper()
	u, a, err := insert.Term(term(source))
	if err != nil || written(u) != want || text(a) != ofType {
		t.Errorf("%s: %s of the type %s, %v; want %s of %s", source, written(u), short(a), err, want, ofType)
	}
}

// refusesText wants a fault of the term of a text. It is at the mark ^ ahead of a word; the mark is no part of the text.
func refusesText(t *testing.T, marked string, code api.Errno, word string) {
	t.Helper()
	refuses(t, term(strings.Replace(marked, "^", "", 1)), api.Fault{Code: code, At: strings.Index(marked, "^"), Word: word})
}
