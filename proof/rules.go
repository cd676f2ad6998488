package proof

import (
	"lychgate/agree"
	"lychgate/api"
	"lychgate/order"
	"lychgate/rules"
)

// An asker tells the type of a kid of a term. Behind what is around the term, more may be around the kid.
type asker func(kid int, more ...rules.Binding) api.Type

// A rule gives the type of a term, and whether nothing fails. It asks for the kids from the left, each once.
type rule func(t api.Term, around rules.Around, ask asker) (api.Type, bool)

// A table has the rules of chapter 9, each at its kind. Of a Cast there is none.
type table map[int8]rule

func newTable() table {
	return table{
		api.Var: func(t api.Term, around rules.Around, _ asker) (api.Type, bool) {
			return around.Of(t.Name)
		},
		api.Num: plainly(api.Int),
		api.Yes: plainly(api.Bool),
		api.No:  plainly(api.Bool),
		api.Lam: func(t api.Term, _ rules.Around, ask asker) (api.Type, bool) {
			return of(api.Fun, t.Type, ask(0, rules.Bind(t.Name, t.Type))), true
		},
		api.Rec: func(t api.Term, _ rules.Around, ask asker) (api.Type, bool) {
			function := of(api.Fun, t.Type, t.To)
			body := ask(0, rules.Bind(t.Name, function), rules.Bind(t.Arg, t.Type))
			return function, agree.Agree(body, t.To)
		},
		api.App: func(_ api.Term, _ rules.Around, ask asker) (api.Type, bool) {
			function, argument := ask(0), ask(1)
			wanted, answer, ok := agree.As(api.Fun, function)
			return answer, ok && agree.Agree(argument, wanted)
		},
		api.Let: func(t api.Term, _ rules.Around, ask asker) (api.Type, bool) {
			first, second := ask(0), ask(1, rules.Bind(t.Name, t.Type))
			return second, agree.Agree(first, t.Type)
		},
		api.If: func(_ api.Term, _ rules.Around, ask asker) (api.Type, bool) {
			condition, yes, no := ask(0), ask(1), ask(2)
			both, ok := order.Meet(yes, no)
			return both, ok && agree.Agree(condition, of(api.Bool))
		},
		api.Two: func(_ api.Term, _ rules.Around, ask asker) (api.Type, bool) {
			return of(api.Pair, ask(0), ask(1)), true
		},
		api.Fst: half(0),
		api.Snd: half(1),
		api.Inl: into(0),
		api.Inr: into(1),
		api.Case: func(t api.Term, _ rules.Around, ask asker) (api.Type, bool) {
			left, right, ok := agree.As(api.Sum, ask(0))
			ofLeft, ofRight := ask(1, rules.Bind(t.Name, left)), ask(2, rules.Bind(t.Arg, right))
			both, agreeing := order.Meet(ofLeft, ofRight)
			return both, ok && agreeing
		},
		api.Op: func(t api.Term, _ rules.Around, ask asker) (api.Type, bool) {
			first, second := ask(0), ask(1)
			return rules.AnswerOf(t.Name), agree.Agree(first, of(api.Int)) && agree.Agree(second, of(api.Int))
		},
		api.Is: func(t api.Term, _ rules.Around, ask asker) (api.Type, bool) {
			return t.Type, agree.Agree(ask(0), t.Type)
		},
	}
}

// plainly is the rule of what always has a type of that kind.
func plainly(kind int8) rule {
	return func(api.Term, rules.Around, asker) (api.Type, bool) { return of(kind), true }
}

// half is the rule of what takes that one of a pair.
func half(side int) rule {
	return func(_ api.Term, _ rules.Around, ask asker) (api.Type, bool) {
		left, right, ok := agree.As(api.Pair, ask(0))
		return [...]api.Type{left, right}[side], ok
	}
}

// into is the rule of what puts its kid on that side of a sum.
func into(side int) rule {
	return func(t api.Term, _ rules.Around, ask asker) (api.Type, bool) {
		kid := ask(0)
		left, right, ok := agree.As(api.Sum, t.Type)
		return of(api.Sum, left, right), ok && agree.Agree(kid, [...]api.Type{left, right}[side])
	}
}

func of(kind int8, parts ...api.Type) api.Type {
	return api.Type{Kind: kind, Kids: parts}
}
