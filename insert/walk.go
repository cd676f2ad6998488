package insert

import (
	"lychgate/agree"
	"lychgate/api"
	"lychgate/order"
	"lychgate/rules"
	"lychgate/types"
)

// What is cast stands from 0 to lastPlace: one above its place is the label.
const lastPlace = 1<<31 - 2

// A site is a term that has a type, so that no rule of chapter 9 fails in it. Its kids are asked from the left, each once, and then put to what is wanted of them.
type site struct {
	term   api.Term
	around rules.Around
	ask    func(more ...rules.Binding) api.Type // the next kid's type; behind what is around the term, more may be around the kid
	put    func(wanted ...api.Type) api.Term    // the term over its kids, put to these types from the left; those for which there is none stand as they become
}

// A kid is what a kid of a term becomes, its type, and where it stood.
type kid struct {
	term api.Term
	of   api.Type
	at   int
}

// newSite gives a site whose kids are not asked yet. What is told of it shares lists with t, and has what does not count there.
func newSite(t api.Term, around rules.Around) site {
	var kids []kid
	return site{
		term:   t,
		around: around,
		ask: func(more ...rules.Binding) api.Type {
			next := t.Kids[len(kids)]
			u, a := newSite(next, around.With(more...)).becomes()
			kids = append(kids, kid{u, a, next.At})
			return a
		},
		put: func(wanted ...api.Type) api.Term {
			u := t
			u.Kids = nil
			for n, k := range kids {
				if n < len(wanted) {
					k.term = k.put(wanted[n])
				}
				u.Kids = append(u.Kids, k.term)
			}
			return u
		},
	}
}

// put gives what the kid becomes where a type is wanted. It fails, if the kid is to be cast, and no label can tell where it stood.
func (k kid) put(wanted api.Type) api.Term {
	if types.Same(k.of, wanted) {
		return k.term
	}
	if k.at < 0 || k.at > lastPlace {
		fail(api.ErrArg)
	}
	return api.Term{Kind: api.Cast, Type: k.of, To: wanted, Label: k.at + 1, At: k.at, Kids: []api.Term{k.term}}
}

// becomes gives what the term becomes, and its type.
func (s site) becomes() (api.Term, api.Type) {
	switch s.term.Kind {
	case api.Var:
		a, _ := s.around.Of(s.term.Name)
		return s.put(), a
	case api.Num:
		return s.put(), of(api.Int)
	case api.Yes, api.No:
		return s.put(), of(api.Bool)
	case api.Lam, api.Rec, api.Let, api.Case:
		return s.binder()
	}
	return s.over()
}

// binder is becomes of what binds names.
func (s site) binder() (api.Term, api.Type) {
	t := s.term
	switch t.Kind {
	case api.Lam:
		body := s.ask(rules.Bind(t.Name, t.Type))
		return s.put(), of(api.Fun, t.Type, body)
	case api.Rec:
		function := of(api.Fun, t.Type, t.To)
		s.ask(rules.Bind(t.Name, function), rules.Bind(t.Arg, t.Type))
		return s.put(t.To), function
	case api.Let:
		s.ask()
		body := s.ask(rules.Bind(t.Name, t.Type))
		return s.put(t.Type), body
	}
	sum, left, right := match(api.Sum, s.ask()) // a Case's: there is no other kind left
	both, _ := order.Meet(s.ask(rules.Bind(t.Name, left)), s.ask(rules.Bind(t.Arg, right)))
	return s.put(sum, both, both), both
}

// over is becomes of what has kids, and binds no names.
func (s site) over() (api.Term, api.Type) {
	t := s.term
	first := s.ask()
	switch t.Kind {
	case api.App:
		function, argument, answer := match(api.Fun, first)
		s.ask()
		return s.put(function, argument), answer
	case api.If:
		both, _ := order.Meet(s.ask(), s.ask())
		return s.put(of(api.Bool), both, both), both
	case api.Two:
		second := s.ask()
		return s.put(), of(api.Pair, first, second)
	case api.Fst:
		pair, left, _ := match(api.Pair, first)
		return s.put(pair), left
	case api.Snd:
		pair, _, right := match(api.Pair, first)
		return s.put(pair), right
	case api.Inl:
		sum, left, _ := match(api.Sum, t.Type)
		u := s.put(left)
		u.Type = sum
		return u, sum
	case api.Inr:
		sum, _, right := match(api.Sum, t.Type)
		u := s.put(right)
		u.Type = sum
		return u, sum
	case api.Op:
		s.ask()
		return s.put(of(api.Int), of(api.Int)), rules.AnswerOf(t.Name)
	}
	return s.put(t.Type).Kids[0], t.Type // an Is: there is no other kind left
}

// match gives the type of that kind which a matches, and its parts.
func match(kind int8, a api.Type) (whole, left, right api.Type) {
	left, right, _ = agree.As(kind, a)
	return of(kind, left, right), left, right
}

func of(kind int8, parts ...api.Type) api.Type {
	return api.Type{Kind: kind, Kids: parts}
}
