package samples

import (
	"slices"

	"lychgate/api"
	"lychgate/parse"
	"lychgate/show"
	"lychgate/terms"
)

// Node is a term that has no names, numbers and types.
func Node(kind int8, kids ...api.Term) api.Term { return api.Term{Kind: kind, Kids: kids} }

// Name is a Var.
func Name(x string) api.Term { return api.Term{Kind: api.Var, Name: x} }

// Cast is a Cast.
func Cast(from, to api.Type, label int, kid api.Term) api.Term {
	return api.Term{Kind: api.Cast, Type: from, To: to, Label: label, Kids: []api.Term{kid}}
}

// Term is the term that a text tells.
func Term(text string) api.Term {
	x, err := parse.Term(text)
	if err != nil {
		panic(text + ": " + err.Error())
	}
	return x
}

// CastTerm is the cast term that a text tells. No words make a Cast: in its place there stands e:A:B, which is e, from A to B.
func CastTerm(text string) api.Term { return Casting(Term(text)) }

// Casting is x with a Cast for each Is right over another one.
func Casting(x api.Term) api.Term {
	if x.Kind == api.Is && x.Kids[0].Kind == api.Is {
		inner := x.Kids[0]
		x = api.Term{Kind: api.Cast, Type: inner.Type, To: x.Type, Label: x.At + 1, At: x.At, Kids: inner.Kids}
	}
	return Over(x, Casting)
}

// Ascribing is x with two Is for each Cast.
func Ascribing(x api.Term) api.Term {
	if x.Kind == api.Cast {
		x = api.Term{Kind: api.Is, Type: x.To, Kids: []api.Term{{Kind: api.Is, Type: x.Type, Kids: x.Kids}}}
	}
	return Over(x, Ascribing)
}

// ShortTerm is how the text of x begins, which CastTerm reads, or what is wrong with x.
func ShortTerm(x api.Term) string {
	if e := terms.Check(x); e != api.OK {
		return "a term with " + e.Error() // it may have no end
	}
	text, e := show.Text(x)
	if e != api.OK {
		text, e = show.Text(Ascribing(x))
	}
	if e != api.OK {
		return "a term without a text"
	}
	return begins(text)
}

// Over is x with each of its kids changed.
func Over(x api.Term, change func(api.Term) api.Term) api.Term {
	kids := x.Kids
	x.Kids = nil
	for _, kid := range kids {
		x.Kids = append(x.Kids, change(kid))
	}
	return x
}

// Annotated is x with each of its annotations changed, and the types of its Casts.
func Annotated(x api.Term, change func(api.Type) api.Type) api.Term {
	switch x.Kind {
	case api.Lam, api.Let, api.Inl, api.Inr, api.Is:
		x.Type = change(x.Type)
	case api.Rec, api.Cast:
		x.Type, x.To = change(x.Type), change(x.To)
	}
	return Over(x, func(kid api.Term) api.Term { return Annotated(kid, change) })
}

// All is x, and all terms within it, each ahead of its kids.
func All(x api.Term) []api.Term {
	all := []api.Term{x}
	for _, kid := range x.Kids {
		all = append(all, All(kid)...)
	}
	return all
}

// Count is how many terms of that kind there are in x.
func Count(x api.Term, kind int8) int {
	count := 0
	for _, y := range All(x) {
		if y.Kind == kind {
			count++
		}
	}
	return count
}

// EveryKind is a term of each kind, each at its kind.
func EveryKind() []api.Term {
	var all []api.Term
	for _, text := range []string{
		`x`, `1`, `true`, `false`, `\x:?.x`, `rec f(x:?):?.x`, `x(y)`, `let x:?=y in x`, `if x then y else z`, `[x, y]`, `fst x`, `snd x`,
		`inl {?} x`, `inr {?} x`, `case x of y.y | z.z`, `x + y`, `x : ?`, `x : int : ?`,
	} {
		all = append(all, CastTerm(text))
	}
	return all
}

// Around are x, and the terms in which it stands as each kid of each kind.
func Around(x api.Term) []api.Term {
	all := []api.Term{x}
	for _, outer := range EveryKind() {
		for n := range outer.Kids {
			y := outer
			y.Kids = slices.Clone(outer.Kids)
			y.Kids[n] = x
			all = append(all, y)
		}
	}
	return all
}

// Rows are all rows of so many of l.
func Rows[T any](l []T, length int) [][]T {
	all := [][]T{nil}
	for range length {
		var more [][]T
		for _, row := range all {
			for _, x := range l {
				more = append(more, append(slices.Clone(row), x))
			}
		}
		all = more
	}
	return all
}
