package show

import (
	"strconv"

	"lychgate/api"
	"lychgate/types"
)

// A writer hands the words of terms on, one behind the other.
type writer struct{ put func(words ...string) }

// stand puts t where only what is at least so strong stands without brackets.
func (w writer) stand(t api.Term, least int) {
	if strength(t) >= least {
		w.own(t)
		return
	}
	w.put("(")
	w.own(t)
	w.put(")")
}

// kids gives what puts the next kid of t at a strength, and words behind it.
func (w writer) kids(t api.Term) func(least int, behind ...string) {
	next := 0
	return func(least int, behind ...string) {
		w.stand(t.Kids[next], least)
		w.put(behind...)
		next++
	}
}

// own puts the words of t, without brackets around them.
func (w writer) own(t api.Term) {
	kid := w.kids(t)
	switch t.Kind {
	case api.Var:
		w.put(t.Name)
	case api.Num:
		w.number(t.Num)
	case api.Yes:
		w.put("true")
	case api.No:
		w.put("false")
	case api.App:
		kid(applied, "(")
		kid(weakest, ")")
	case api.Two:
		w.put("[")
		kid(weakest, ",")
		kid(weakest, "]")
	case api.Fst:
		w.put("fst")
		kid(prefixed)
	case api.Snd:
		w.put("snd")
		kid(prefixed)
	case api.Inl:
		w.put("inl", "{", typed(t.Type), "}")
		kid(prefixed)
	case api.Inr:
		w.put("inr", "{", typed(t.Type), "}")
		kid(prefixed)
	case api.Op:
		_, left, right := operator(t.Name)
		kid(left, t.Name)
		kid(right)
	case api.Is:
		kid(ascribed, ":", typed(t.Type))
	default:
		w.open(t)
	}
}

// open puts the words of a term that is open to the right: its last kid takes whatever stands behind it.
func (w writer) open(t api.Term) {
	kid := w.kids(t)
	switch t.Kind {
	case api.Lam:
		w.put(`\`, t.Name, ":", typed(t.Type), ".")
	case api.Rec:
		w.put("rec", t.Name, "(", t.Arg, ":", typed(t.Type), ")", ":", typed(t.To), ".")
	case api.Let:
		w.put("let", t.Name, ":", typed(t.Type), "=")
		kid(weakest, "in")
	case api.If:
		w.put("if")
		kid(weakest, "then")
		kid(weakest, "else")
	case api.Case:
		w.put("case")
		kid(weakest, "of", t.Name, ".")
		kid(weakest, "|", t.Arg, ".")
	}
	kid(weakest)
}

// number puts n, which has another side: a "-" is a word of its own.
func (w writer) number(n int64) {
	if n < 0 {
		w.put("-")
		n = -n
	}
	w.put(strconv.FormatInt(n, 10))
}

// typed gives the text of a type. Its words have blanks between them already.
func typed(a api.Type) string {
	text, _ := types.Text(a) // terms.Check has found that it is one
	return text
}
