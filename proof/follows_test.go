package proof_test

import (
	"errors"
	"slices"
	"strings"
	"testing"

	"lychgate/api"
	"lychgate/check"
	"lychgate/proof"
	"lychgate/types"
)

// derivations makes so many terms, and hands on those that have a derivation, each with it. It wants enough of them.
func derivations(t *testing.T, seed int64, many, enough int, use func(g *grower, x api.Term, p api.Proof)) {
	t.Helper()
	g, used := newGrower(seed), 0
	for n := range many {
		x := g.term(1 + n%6)
		if p, e := proof.Find(x); e == api.OK {
			used++
			use(g, x, p)
		}
		if t.Failed() {
			t.FailNow() // one is enough: the next ones would tell the same
		}
	}
	if used < enough {
		t.Errorf("only %d of %d have a derivation", used, many)
	}
}

// P10.3: Find is OK just if check.Type is, and tells its type; Proves holds of it.
func TestFindIsAsTypeIs(t *testing.T) {
	g, ended := newGrower(11), map[api.Errno]int{}
	try := func(x api.Term) {
		a, err := check.Type(x)
		p, e := proof.Find(x)
		ended[e]++
		var f *api.Fault
		switch {
		case err == nil && (e != api.OK || !types.Same(p.Type, a)),
			errors.As(err, &f) && e != api.ErrProof && e != f.Code:
			t.Fatalf("%s: %s, %v; check tells %s, %v", shortTerm(x), told(p), e, short(a), err)
		}
		proves(t, p, x, err == nil)
	}
	for n := range 4000 {
		x := g.term(1 + n%6)
		try(x)
		try(g.mixed(x))
		try(annotated(x, g.spoilt))
	}
	for _, all := range noTerms() {
		for _, x := range all {
			try(x)
		}
	}
	if ended[api.OK] < 4000 || ended[api.ErrProof] < 2000 || ended[api.ErrTerm] == 0 || ended[api.ErrTooDeep] == 0 || ended[api.ErrTooBig] == 0 {
		t.Errorf("too few: %v", ended)
	}
}

// P10.1: what stands in a derivation of each term within is what check.Type tells of it, if what is around it is put around it by binders.
func TestTypesWithin(t *testing.T) {
	within := 0
	derivations(t, 12, 3000, 1500, func(_ *grower, x api.Term, p api.Proof) {
		within += wantWithin(t, x, p, nil)
	})
	if within < 20000 {
		t.Errorf("only %d", within)
	}
}

// A bound is a name that is around a term, with its type.
type bound struct {
	name string
	of   api.Type
}

// wantWithin wants p to tell of x, and of each kid of it, what check.Type does, and tells how many there were.
func wantWithin(t *testing.T, x api.Term, p api.Proof, around []bound) int {
	t.Helper()
	whole := x
	for _, b := range slices.Backward(around) {
		whole = api.Term{Kind: api.Lam, Name: b.name, Type: b.of, Kids: []api.Term{whole}}
	}
	a, err := check.Type(whole)
	if err != nil {
		t.Fatal(shortTerm(whole), err)
	}
	for range around {
		a = a.Kids[1]
	}
	if !types.Same(a, p.Type) || p.Rule != ruleOf(x.Kind) || len(p.Kids) != len(x.Kids) {
		t.Errorf("of %s in %s: %s; want %s", shortTerm(x), shortTerm(whole), told(p), short(a))
		return 1
	}
	count := 1
	for n, kid := range x.Kids {
		count += wantWithin(t, kid, p.Kids[n], append(around[:len(around):len(around)], boundIn(x, n, p)...))
	}
	return count
}

// boundIn is what x binds in that kid.
func boundIn(x api.Term, kid int, p api.Proof) []bound {
	switch {
	case x.Kind == api.Lam, x.Kind == api.Let && kid == 1:
		return []bound{{x.Name, x.Type}}
	case x.Kind == api.Rec:
		return []bound{{x.Name, of(api.Fun, x.Type, x.To)}, {x.Arg, x.Type}}
	case x.Kind == api.Case && kid > 0:
		part := unknown()
		if sum := p.Kids[0].Type; sum.Kind == api.Sum {
			part = sum.Kids[kid-1]
		}
		return []bound{{[...]string{x.Name, x.Arg}[kid-1], part}}
	}
	return nil
}

// P10.3: whatever Proves takes is Find's.
func TestThereIsOneDerivationAtMost(t *testing.T) {
	told := map[bool]int{}
	derivations(t, 13, 8000, 4000, func(g *grower, x api.Term, p api.Proof) {
		for range 8 {
			q := g.changed(p)
			told[same(p, q)]++
			proves(t, q, x, same(p, q))
		}
		y := g.mixed(annotated(x, g.opened))
		other, e := proof.Find(y)
		proves(t, p, y, e == api.OK && same(p, other))
	})
	if told[true] < 1000 || told[false] < 20000 {
		t.Errorf("too few: %v", told)
	}
}

// P10.3: among terms and derivations of all sorts, each derivation is one of just those terms of which Find tells it.
func TestDerivationsOfOtherTerms(t *testing.T) {
	var all []api.Term
	var proofs []api.Proof
	for text := range strings.SplitSeq(`1;2;true;false;1:?;true:?;1:int;\x:?.x;\y:?.y;\x:int.x;\x:int.1;\x:int.x:?;\x:?.\x:?.x;\x:?.\y:?.x;rec f(x:?):?.x;rec x(f:?):?.f;rec f(x:?):?.f;rec f(x:?):?.f(x);rec x(x:?):?.x;`+
		`1+2;2*1;1<2;2=1;[1,2];[2,1];[1,true];[true,1];fst[1,2];snd[1,2];fst(1:?);snd(1:?);inl{int+int}1;inr{int+int}1;inl{?}1;inr{?}1;inl{int+?}1;inr{?+int}1;inl{?+?}1;let x:int=1 in x;let x:int=1 in 1;let x:?=1 in x;let y:int=2 in y;`+
		`let x:int=(1:?) in x;if true then 1 else 2;if false then 1 else 2;if true then 2 else 3;if 1<2 then 1 else 2;case inl{?}1 of x.x|y.y;case inl{?}1 of x.x|y.2;case inl{int+int}1 of x.x|y.y;case inr{int+int}1 of x.x|x.x;case (1:?) of x.x|y.y;(1:?)(2);(\x:?.x)(1);(\x:int.x)(1);(\x:int.1)(2)`, ";") {
		x := term(text)
		p, e := proof.Find(x)
		if e != api.OK {
			t.Fatal(text, e)
		}
		all, proofs = append(all, x), append(proofs, p)
	}
	alike := 0
	for n, p := range proofs {
		for m, x := range all {
			proves(t, p, x, same(p, proofs[m]))
			if n != m && same(p, proofs[m]) {
				alike++
			}
		}
	}
	if alike < 10 {
		t.Errorf("only %d", alike)
	}
	for _, p := range proofs {
		for _, text := range []string{`x`, `\x:?.y`, `1(2)`, `fst 1`, `true+1`, `if 1 then 1 else 2`, `let x:bool=1 in x`, `inl{int}1`, `inr{int+int}true`, `case 1 of x.x|y.y`, `rec f(x:int):int.f`, `1:bool`} {
			proves(t, p, term(text), false)
		}
	}
}

// P10.4: every rule's name, every type and every kid of these, each alone made another one.
func TestEachPlaceAnother(t *testing.T) {
	for _, text := range []string{
		`1`, `true`, `false`, `\x:?.x+1`, `(1:?)(2)`, `(\x:int.x)(3)`, `rec f(x:int):bool.if x<0 then f(x-1) else (x:?)`, `let x:?=1 in [x,true]`, `case inl{int+bool}1 of x.x<2|y.y`, `case (1:?) of x.x | y.[y,y]`,
		`if true then 1 else (2:?)`, `fst [1, inr{?}2]`, `snd ([1,\x:int.x]:?)`, `let f:int->int=\x:?.x in f(2)`, `\x:int*bool.[snd x, fst x]`, `if false then [1:?, 2] else [true, 3:?]`, `inl{int*int+(?->?)}[1, 2]:?`,
	} {
		x := term(text)
		p, e := proof.Find(x)
		if e != api.OK {
			t.Fatal(text, e)
		}
		for _, way := range placesOf(p) {
			for _, q := range others(withinProof(p, way), p) {
				proves(t, putProof(p, way, q), x, false)
			}
		}
		proves(t, p, x, true)
	}
}

// others are all sorts of derivations, no one of which is p.
func others(p, whole api.Proof) []api.Proof {
	var all []api.Proof
	add := func(q api.Proof) {
		if !same(p, q) {
			all = append(all, q)
		}
	}
	for _, rule := range append(strings.Fields(ruleNames), "", strings.ToLower(p.Rule), p.Rule+" ", "_"+p.Rule, p.Rule+p.Rule) {
		add(by(rule, p.Type, p.Kids...))
	}
	for _, a := range []string{"?", "int", "bool", "? -> ?", "? * ?", "? + ?", "? -> int", "int -> int", "int * int", "int * bool", "int + bool", "? * bool", "bool -> int -> bool"} {
		add(by(p.Rule, typed(a), p.Kids...))
	}
	for _, a := range []api.Type{of(6), of(-1), of(p.Type.Kind), of(p.Type.Kind, unknown()), of(p.Type.Kind, p.Type), of(p.Type.Kind, p.Type, p.Type, p.Type), of(api.Fun, p.Type, p.Type), of(p.Type.Kind+1, p.Type.Kids...)} {
		add(by(p.Rule, a, p.Kids...))
	}
	for n := range p.Kids {
		add(by(p.Rule, p.Type, p.Kids[:n]...))
		add(by(p.Rule, p.Type, slices.Delete(slices.Clone(p.Kids), n, n+1)...))
	}
	backward := slices.Clone(p.Kids)
	slices.Reverse(backward)
	add(by(p.Rule, p.Type, backward...))
	add(by(p.Rule, p.Type, append(slices.Clone(p.Kids), api.Proof{})...))
	add(by(p.Rule, p.Type, append(slices.Clone(p.Kids), p)...))
	add(by(p.Rule, p.Type, append([]api.Proof{p}, p.Kids...)...))
	for _, way := range placesOf(whole) {
		add(withinProof(whole, way))
	}
	for _, text := range []string{"Num int", "Num ?", "Yes bool", "No bool", "Var int", "Var ?", "Is ? (Num int)", "Is ? (Yes bool)", "Is int (Num int)", "Op int (Num int, Num int)"} {
		add(derived(text))
	}
	return all
}
