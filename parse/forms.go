package parse

import (
	"strings"

	"lychgate/api"
)

// How strong a term is: as which part of another one it can stand without brackets.
const (
	ascribed = iota
	compared
	added
	multiplied
	prefixed
	applied
)

// An operator is a sign behind a term that makes it a part of another one.
type operator struct {
	kind     int8 // of the term that it makes
	strength int  // of that term
	left     int  // how strong the part ahead of the sign must be
	right    int  // and the part behind it, of an Op
}

// operators gives all operators by their signs. One whose left part may be as weak as what it makes goes to the left.
func operators() map[string]operator {
	return map[string]operator{
		"(": {kind: api.App, strength: applied, left: applied},
		"*": {kind: api.Op, strength: multiplied, left: multiplied, right: prefixed},
		"/": {kind: api.Op, strength: multiplied, left: multiplied, right: prefixed},
		"+": {kind: api.Op, strength: added, left: added, right: multiplied},
		"-": {kind: api.Op, strength: added, left: added, right: multiplied},
		"<": {kind: api.Op, strength: compared, left: added, right: added},
		"=": {kind: api.Op, strength: compared, left: added, right: added},
		":": {kind: api.Is, strength: ascribed, left: ascribed},
	}
}

// term reads any term. The words of a Lam, a Let, an If, a Rec and a Case go on as far as they can: no operator is behind them.
func (r *reader) term() *api.Term {
	switch fixed(r.word()) {
	case `\`:
		return r.lam()
	case "let":
		return r.let()
	case "if":
		return r.choice()
	case "rec":
		return r.rec()
	case "case":
		return r.branches()
	}
	return r.part(ascribed)
}

// part reads a term that is at least so strong.
func (r *reader) part(least int) *api.Term {
	t, strength := r.operand()
	for {
		o, ok := r.operators[fixed(r.word())]
		if !ok || o.strength < least || strength < o.left {
			return t
		}
		t, strength = r.joined(t, o), o.strength
	}
}

// joined reads on from the operator o, ahead of which stands left.
func (r *reader) joined(left *api.Term, o operator) *api.Term {
	sign := r.word().Text
	t := r.head(o.kind)
	switch o.kind {
	case api.App:
		t.Kids = kids(left, r.term())
		r.want(")")
	case api.Op:
		t.Name = strings.Clone(sign)
		t.Kids = kids(left, r.part(o.right))
	case api.Is:
		t.Kids, t.Type = kids(left), r.typed()
	}
	return t
}

// operand reads what may stand between two operators, and tells how strong it is.
func (r *reader) operand() (*api.Term, int) {
	switch fixed(r.word()) {
	case "fst":
		return r.prefix(api.Fst), prefixed
	case "snd":
		return r.prefix(api.Snd), prefixed
	case "inl":
		return r.side(api.Inl), prefixed
	case "inr":
		return r.side(api.Inr), prefixed
	case "-":
		t := r.head(api.Num)
		t.Num = -r.number()
		return t, prefixed
	}
	return r.atom(), applied
}

func (r *reader) atom() *api.Term {
	w := r.word()
	switch fixed(w) {
	case "true":
		return r.head(api.Yes)
	case "false":
		return r.head(api.No)
	case "(":
		return r.bracketed()
	case "[":
		return r.two()
	}
	if w.Kind == api.WordName {
		return &api.Term{Kind: api.Var, Name: r.name(), At: w.At}
	}
	return &api.Term{Kind: api.Num, Num: r.number(), At: w.At}
}

func (r *reader) bracketed() *api.Term {
	r.want("(")
	t := r.term()
	r.want(")")
	return t
}

func (r *reader) two() *api.Term {
	t := r.head(api.Two)
	t.Kids = kids(r.term(), r.behind(","))
	r.want("]")
	return t
}

func (r *reader) prefix(kind int8) *api.Term {
	t := r.head(kind)
	t.Kids = kids(r.part(prefixed))
	return t
}

func (r *reader) side(kind int8) *api.Term {
	t := r.head(kind)
	r.want("{")
	t.Type = r.typed()
	r.want("}")
	t.Kids = kids(r.part(prefixed))
	return t
}

func (r *reader) lam() *api.Term {
	t := r.head(api.Lam)
	t.Name, t.Type = r.name(), r.annotation()
	t.Kids = kids(r.behind("."))
	return t
}

func (r *reader) let() *api.Term {
	t := r.head(api.Let)
	t.Name, t.Type = r.name(), r.annotation()
	t.Kids = kids(r.behind("="), r.behind("in"))
	return t
}

func (r *reader) choice() *api.Term {
	t := r.head(api.If)
	t.Kids = kids(r.term(), r.behind("then"), r.behind("else"))
	return t
}

func (r *reader) rec() *api.Term {
	t := r.head(api.Rec)
	t.Name = r.name()
	r.want("(")
	t.Arg, t.Type = r.name(), r.annotation()
	r.want(")")
	t.To = r.annotation()
	t.Kids = kids(r.behind("."))
	return t
}

func (r *reader) branches() *api.Term {
	t := r.head(api.Case)
	told := r.term()
	r.want("of")
	t.Name = r.name()
	left := r.behind(".")
	r.want("|")
	t.Arg = r.name()
	t.Kids = kids(told, left, r.behind("."))
	return t
}

// head goes past the head word of a term of that kind.
func (r *reader) head(kind int8) *api.Term {
	t := &api.Term{Kind: kind, At: r.word().At}
	r.at++
	return t
}

// behind reads a term behind a key or a sign.
func (r *reader) behind(text string) *api.Term {
	r.want(text)
	return r.term()
}

// annotation reads a type behind its sign.
func (r *reader) annotation() api.Type {
	r.want(":")
	return r.typed()
}

// kids gives a list of those terms.
func kids(all ...*api.Term) []api.Term {
	l := make([]api.Term, len(all))
	for i, t := range all {
		l[i] = *t
	}
	return l
}
