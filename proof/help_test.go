package proof_test

import (
	"fmt"
	"slices"
	"strings"
	"testing"

	"lychgate/api"
	"lychgate/parse"
	"lychgate/proof"
	"lychgate/scan"
	"lychgate/show"
	"lychgate/types"
)

func of(kind int8, kids ...api.Type) api.Type { return api.Type{Kind: kind, Kids: kids} }

func unknown() api.Type { return of(api.Unknown) }

func integer() api.Type { return of(api.Int) }

func boolean() api.Type { return of(api.Bool) }

// node is a term that has no names, numbers and types.
func node(kind int8, kids ...api.Term) api.Term { return api.Term{Kind: kind, Kids: kids} }

// name is a Var.
func name(x string) api.Term { return api.Term{Kind: api.Var, Name: x} }

// by is a derivation by a rule.
func by(rule string, a api.Type, kids ...api.Proof) api.Proof {
	return api.Proof{Rule: rule, Type: a, Kids: kids}
}

func words(text string) []api.Word {
	l, err := scan.All(text)
	if err != nil {
		panic(text + ": " + err.Error())
	}
	return l
}

// typed is the type that a text tells.
func typed(text string) api.Type {
	l := words(text)
	a, next, err := types.Read(l, 0)
	if err != nil || l[next].Kind != api.WordEnd {
		panic(text)
	}
	return a
}

// term is the term that a text tells.
func term(text string) api.Term {
	x, err := parse.Term(text)
	if err != nil {
		panic(text + ": " + err.Error())
	}
	return x
}

// derived is the derivation that a text tells, written as the chapter writes them: Lam ? -> int (Op int (Var ?, Num int)).
func derived(text string) api.Proof {
	l := words(text)
	p, next := derivedFrom(l, 0)
	if l[next].Kind != api.WordEnd {
		panic(text)
	}
	return p
}

func derivedFrom(l []api.Word, at int) (api.Proof, int) {
	p := api.Proof{Rule: l[at].Text}
	a, next, err := types.Read(l, at+1)
	if err != nil {
		panic(err)
	}
	p.Type = a
	if l[next].Text != "(" {
		return p, next
	}
	for l[next].Text != ")" { // it is at "(" or at a comma
		var kid api.Proof
		kid, next = derivedFrom(l, next+1)
		p.Kids = append(p.Kids, kid)
	}
	return p, next + 1
}

// told is p, written as the chapter writes it.
func told(p api.Proof) string {
	var kids []string
	for _, kid := range p.Kids {
		kids = append(kids, told(kid))
	}
	text := p.Rule + " " + short(p.Type)
	if len(kids) > 0 {
		text += " (" + strings.Join(kids, ", ") + ")"
	}
	return text
}

// short is what a looks like: its text, or, of one that is none, how it begins.
func short(a api.Type) string {
	if text, e := types.Text(a); e == api.OK {
		return fmt.Sprintf("%.200s", text)
	}
	if types.Check(a) == api.ErrTooBig {
		return "one too great"
	}
	return fmt.Sprintf("%.200s", fmt.Sprint(a))
}

// shortTerm is what x looks like.
func shortTerm(x api.Term) string {
	text, e := show.Text(x)
	if e != api.OK {
		return e.Error()
	}
	return fmt.Sprintf("%.300s", text)
}

// same tells whether p and q are one derivation.
func same(p, q api.Proof) bool {
	return p.Rule == q.Rule && types.Same(p.Type, q.Type) && slices.EqualFunc(p.Kids, q.Kids, same)
}

// finds wants a derivation of x, and Proves to take it.
func finds(t *testing.T, x api.Term, want api.Proof) {
	t.Helper()
	p, e := proof.Find(x)
	if e != api.OK || !same(p, want) {
		t.Errorf("%s: %.500s, %v; want %.500s", shortTerm(x), told(p), e, told(want))
	}
	proves(t, p, x, true)
	proves(t, want, x, true)
}

// findsNone wants an error of Find of x, and nothing beside it.
func findsNone(t *testing.T, x api.Term, code api.Errno) {
	t.Helper()
	p, e := proof.Find(x)
	if e != code || p.Rule != "" || p.Type.Kind != 0 || len(p.Type.Kids) != 0 || len(p.Kids) != 0 {
		t.Errorf("%s: %.500s, %v; want %v", shortTerm(x), told(p), e, code)
	}
}

// proves wants Proves to tell whether p is a derivation of x.
func proves(t *testing.T, p api.Proof, x api.Term, want bool) {
	t.Helper()
	if proof.Proves(p, x) != want {
		t.Errorf("Proves(%.500s, %s): %v", told(p), shortTerm(x), !want)
	}
}

// everyKind is a term of each kind, that of Cast last.
func everyKind() []api.Term {
	var all []api.Term
	for _, text := range []string{`x`, `1`, `true`, `false`, `\x:?.x`, `rec f(x:?):?.x`, `x(y)`, `let x:?=y in x`, `if x then y else z`, `[x, y]`, `fst x`, `snd x`, `inl {?} x`, `inr {?} x`, `case x of y.y | z.z`, `x + y`, `x : ?`} {
		all = append(all, term(text))
	}
	return append(all, api.Term{Kind: api.Cast, Label: 1, Type: integer(), To: unknown(), Kids: []api.Term{term(`x`)}})
}

// around are the terms in which x stands as each kid of each kind.
func around(x api.Term) []api.Term {
	all := []api.Term{x}
	for _, outer := range everyKind() {
		for n := range outer.Kids {
			y := outer
			y.Kids = slices.Clone(outer.Kids)
			y.Kids[n] = x
			all = append(all, y)
		}
	}
	return all
}

// chain is a type so many types deep, each part of which but the last one has int for the other part.
func chain(kind int8, depth int, right bool, bottom api.Type) api.Type {
	for range depth - types.Depth(bottom) {
		if right {
			bottom = of(kind, integer(), bottom)
		} else {
			bottom = of(kind, bottom, integer())
		}
	}
	return bottom
}

// balanced is a type with so many leaves, no deeper than it must be: it has twice as many nodes, less one.
func balanced(kind int8, leaves int, leaf api.Type) api.Type {
	if leaves == 1 {
		return leaf
	}
	return of(kind, balanced(kind, leaves-leaves/2, leaf), balanced(kind, leaves/2, leaf))
}

// full is a type of 2^depth - 1 nodes, whose parts are shared.
func full(kind int8, depth int, bottom api.Type) api.Type {
	for range depth - 1 {
		bottom = of(kind, bottom, bottom)
	}
	return bottom
}

// endless is a type that lies within itself.
func endless(kind int8) api.Type {
	kids := make([]api.Type, 2)
	kids[0], kids[1] = integer(), of(kind, kids...)
	return kids[1]
}
