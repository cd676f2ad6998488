package show

import "lychgate/api"

// How strong a term is: as which part of another one it can stand without brackets.
const (
	weakest    = iota - 1 // what goes on as far as it can
	ascribed              // an Is
	compared              // an Op with < or =
	added                 // with + or -
	multiplied            // with * or /
	prefixed              // what begins with a word of its own, and ends with a part
	applied               // an App, and what can be its function
)

func strength(t api.Term) int {
	switch t.Kind {
	case api.Lam, api.Rec, api.Let, api.If, api.Case:
		return weakest
	case api.Is:
		return ascribed
	case api.Op:
		own, _, _ := operator(t.Name)
		return own
	case api.Fst, api.Snd, api.Inl, api.Inr:
		return prefixed
	case api.Num:
		if t.Num < 0 {
			return prefixed
		}
	}
	return applied
}

// operator tells how strong an Op with that sign is, and at which strengths its parts stand. One whose left part may be as weak as itself goes to the left.
func operator(sign string) (own, left, right int) {
	switch sign {
	case "*", "/":
		return multiplied, multiplied, prefixed
	case "+", "-":
		return added, added, multiplied
	}
	return compared, added, added
}
