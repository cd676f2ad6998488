// Package parts has what several layers ask of the parts of a term, beside what chapter 3 tells: the types in it, and copies that stand where it does.
package parts

import (
	"lychgate/api"
	"lychgate/terms"
)

// Types gives the types of t itself that count, not those of its kids: its annotations; of a Cast the types from and to which it goes.
func Types(t api.Term) []api.Type {
	switch t.Kind {
	case api.Lam, api.Let, api.Inl, api.Inr, api.Is:
		return []api.Type{t.Type}
	case api.Rec, api.Cast:
		return []api.Type{t.Type, t.To}
	}
	return nil
}

// Copy gives t with lists of its own, each term in it where it stood, and without all else that does not count; the zero term, if t is none.
func Copy(t api.Term) api.Term {
	if terms.Check(t) != api.OK {
		return api.Term{}
	}
	return placed(terms.Bare(t), t)
}

// placed gives bare, each term in it standing where that of t does.
func placed(bare, t api.Term) api.Term {
	bare.At = t.At
	for n, kid := range t.Kids {
		bare.Kids[n] = placed(bare.Kids[n], kid)
	}
	return bare
}
