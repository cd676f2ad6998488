// Package rules has the rules of chapter 9, which layers 9, 11 and 13 ask of terms; some of their words mean another thing to each. What is around a term is here for layers 10 and 12, too. See shared/doc/09-check.md, shared/doc/11-static.md and shared/doc/13-kernel.md.
package rules

import (
	"slices"
	"strings"

	"lychgate/api"
	"lychgate/copies"
	"lychgate/terms"
	"lychgate/types"
)

// Rules are what is asked of terms; what they mean by some of their words stands in the fields.
type Rules struct {
	Refuse func(t api.Term) *api.Fault // of what they do not speak of: at the least what terms.Check refuses
	Agree  func(a, b api.Type) bool
	Match  func(kind int8, a api.Type) (l, r api.Type, ok bool)
	Meet   func(a, b api.Type) api.Type // of two that agree
	Goes   func(from, to api.Type) bool // whether a Cast may go so; nobody asks where Refuse lets no Cast in
}

// Strict are the rules, where two types agree just if they are the same, and a type matches just what it is.
func Strict(refuse func(t api.Term) *api.Fault) Rules {
	return Rules{
		Refuse: refuse,
		Agree:  types.Same,
		Match:  partsOf,
		Meet:   func(a, _ api.Type) api.Type { return a },
	}
}

// Without gives what tells of a t what keeps it from being a term in which there is none of that kind; or nil.
func Without(kind int8) func(t api.Term) *api.Fault {
	return func(t api.Term) *api.Fault {
		e := terms.Check(t)
		if e == api.OK && has(t, kind) {
			e = api.ErrTerm
		}
		if e == api.OK {
			return nil
		}
		return &api.Fault{Code: e}
	}
}

// has goes down into a term that has been checked.
func has(t api.Term, kind int8) bool {
	return t.Kind == kind || slices.ContainsFunc(t.Kids, func(kid api.Term) bool { return has(kid, kind) })
}

// Type gives the type of t, nothing being around it.
func (r Rules) Type(t api.Term) (a api.Type, e error) {
	if fault := r.Refuse(t); fault != nil {
		return api.Type{}, fault
	}
	defer func() {
		cause := recover()
		if fault, ok := cause.(*api.Fault); ok {
			a, e = api.Type{}, fault
		} else if cause != nil {
			panic(cause)
		}
	}()
	return copies.Type(r.tell(t, nil)), nil // it shares lists with t, and with itself
}

// tell gives the type of t. A rule that fails within it gives up by panic, with a *api.Fault.
func (r Rules) tell(t api.Term, around Around) api.Type {
	a := r.typeOf(t, around)
	if e := types.Check(a); e != api.OK {
		fail(t, e)
	}
	return a
}

// typeOf is tell, but for how deep and great the type is. The kinds that it names have no kids, or bind names.
func (r Rules) typeOf(t api.Term, around Around) api.Type {
	switch t.Kind {
	case api.Var:
		return named(t, around)
	case api.Num:
		return of(api.Int)
	case api.Yes, api.No:
		return of(api.Bool)
	case api.Lam:
		return of(api.Fun, t.Type, r.tell(t.Kids[0], around.With(Bind(t.Name, t.Type))))
	case api.Rec:
		return r.rec(t, around)
	case api.Let:
		return r.let(t, around)
	case api.Case:
		return r.branches(t, around)
	}
	var kids []api.Type
	for _, kid := range t.Kids {
		kids = append(kids, r.tell(kid, around))
	}
	return r.over(t, kids)
}

func (r Rules) rec(t api.Term, around Around) api.Type {
	function := of(api.Fun, t.Type, t.To)
	body := r.tell(t.Kids[0], around.With(Bind(t.Name, function), Bind(t.Arg, t.Type)))
	r.wantAgree(t, body, t.To)
	return function
}

func (r Rules) let(t api.Term, around Around) api.Type {
	r.wantAgree(t, r.tell(t.Kids[0], around), t.Type)
	return r.tell(t.Kids[1], around.With(Bind(t.Name, t.Type)))
}

func (r Rules) branches(t api.Term, around Around) api.Type {
	left, right := r.parts(t, api.Sum, r.tell(t.Kids[0], around))
	ofLeft := r.tell(t.Kids[1], around.With(Bind(t.Name, left)))
	ofRight := r.tell(t.Kids[2], around.With(Bind(t.Arg, right)))
	return r.meet(t, ofLeft, ofRight)
}

// over gives the type of a t that binds no name, over kids of these types.
func (r Rules) over(t api.Term, kids []api.Type) api.Type {
	switch t.Kind {
	case api.App:
		argument, answer := r.parts(t, api.Fun, kids[0])
		r.wantAgree(t, kids[1], argument)
		return answer
	case api.If:
		r.wantAgree(t, kids[0], of(api.Bool))
		return r.meet(t, kids[1], kids[2])
	case api.Two:
		return of(api.Pair, kids...)
	case api.Fst:
		first, _ := r.parts(t, api.Pair, kids[0])
		return first
	case api.Snd:
		_, second := r.parts(t, api.Pair, kids[0])
		return second
	case api.Inl:
		left, right := r.parts(t, api.Sum, t.Type)
		r.wantAgree(t, kids[0], left)
		return of(api.Sum, left, right)
	case api.Inr:
		left, right := r.parts(t, api.Sum, t.Type)
		r.wantAgree(t, kids[0], right)
		return of(api.Sum, left, right)
	case api.Op:
		r.wantAgree(t, kids[0], of(api.Int))
		r.wantAgree(t, kids[1], of(api.Int))
		return AnswerOf(t.Name)
	case api.Cast:
		r.wantAgree(t, kids[0], t.Type)
		r.wantGoes(t)
		return t.To
	}
	r.wantAgree(t, kids[0], t.Type) // an Is: there is no other kind left
	return t.Type
}

// wantAgree fails at t, unless a agrees with b.
func (r Rules) wantAgree(t api.Term, a, b api.Type) {
	if !r.Agree(a, b) {
		fail(t, api.ErrAgree)
	}
}

// wantGoes fails at t, unless it may go as it does.
func (r Rules) wantGoes(t api.Term) {
	if !r.Goes(t.Type, t.To) {
		fail(t, api.ErrAgree)
	}
}

// parts are those with which a matches a kind. It fails at t, if there are none.
func (r Rules) parts(t api.Term, kind int8, a api.Type) (left, right api.Type) {
	left, right, ok := r.Match(kind, a)
	if !ok {
		fail(t, api.ErrMatch)
	}
	return left, right
}

// meet is what both branches of t know. It fails at t, unless they agree.
func (r Rules) meet(t api.Term, a, b api.Type) api.Type {
	r.wantAgree(t, a, b)
	return r.Meet(a, b)
}

// named is the type of t's name. It fails at t, if nothing of that name is around.
func named(t api.Term, around Around) api.Type {
	a, ok := around.Of(t.Name)
	if !ok {
		panic(&api.Fault{Code: api.ErrName, At: t.At, Word: strings.Clone(t.Name)})
	}
	return a
}

// partsOf gives those of an a of that kind.
func partsOf(kind int8, a api.Type) (l, r api.Type, ok bool) {
	if a.Kind != kind {
		return l, r, false
	}
	return a.Kids[0], a.Kids[1], true
}

// AnswerOf is the type of what an operator makes of two numbers.
func AnswerOf(operator string) api.Type {
	switch operator {
	case "<", "=":
		return of(api.Bool)
	}
	return of(api.Int)
}

func of(kind int8, parts ...api.Type) api.Type {
	return api.Type{Kind: kind, Kids: parts}
}

func fail(t api.Term, code api.Errno) {
	panic(&api.Fault{Code: code, At: t.At})
}
