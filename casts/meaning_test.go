package casts_test

import (
	"testing"

	"lychgate/api"
	"lychgate/samples"
	"lychgate/types"
)

// What a cast term means (chapter 17), as far as how a run of it ends goes; names stand for values.

// A value is a term that is one: a Lam or a Rec, and what is around it; or a term over values.
type value struct {
	term   api.Term
	around *names
	parts  []value
}

type names struct {
	name  string
	is    value
	outer *names
}

// An ending is how a run ends: OK, ErrFuel, ErrDivide, or ErrBlame of a label. A run leaves by panic with one.
type ending struct {
	code  api.Errno
	label int
}

// A run may still call functions so often.
type run struct{ calls int }

// ended tells how a run of x ends, which kernel takes, and its value, if it ends in one.
func ended(x api.Term, calls int) (v value, how ending) {
	defer func() {
		cause := recover()
		if e, ok := cause.(ending); ok {
			how = e
		} else if cause != nil {
			panic(cause)
		}
	}()
	r := run{calls}
	return r.value(x, nil), ending{}
}

func (r *run) value(x api.Term, around *names) value {
	kid := func(n int) value { return r.value(x.Kids[n], around) }
	switch x.Kind {
	case api.Var:
		for around.name != x.Name {
			around = around.outer
		}
		return around.is
	case api.App:
		f := kid(0)
		return r.call(f, kid(1))
	case api.Let:
		return r.value(x.Kids[1], &names{x.Name, kid(0), around})
	case api.If:
		if kid(0).term.Kind == api.Yes {
			return kid(1)
		}
		return kid(2)
	case api.Fst, api.Snd:
		return r.part(kid(0), int(x.Kind-api.Fst))
	case api.Case:
		side, is := r.injected(kid(0))
		return r.value(x.Kids[1+side], &names{[]string{x.Name, x.Arg}[side], is, around})
	case api.Op:
		m := kid(0)
		return operated(x.Name, m.term.Num, kid(1).term.Num)
	case api.Cast:
		return r.cast(kid(0), x.Type, x.To, x.Label)
	}
	v := value{term: x, around: around}
	if x.Kind == api.Two || x.Kind == api.Inl || x.Kind == api.Inr {
		for n := range x.Kids {
			v.parts = append(v.parts, kid(n))
		}
	}
	return v
}

func (r *run) call(f, v value) value {
	if r.calls == 0 {
		panic(ending{code: api.ErrFuel})
	}
	r.calls--
	x := f.term
	if x.Kind == api.Cast {
		w := r.cast(v, x.To.Kids[0], x.Type.Kids[0], -x.Label)
		return r.cast(r.call(f.parts[0], w), x.Type.Kids[1], x.To.Kids[1], x.Label)
	}
	around := f.around
	name := x.Name
	if x.Kind == api.Rec {
		around, name = &names{x.Name, f, around}, x.Arg
	}
	return r.value(x.Kids[0], &names{name, v, around})
}

func (r *run) part(pair value, n int) value {
	if x := pair.term; x.Kind == api.Cast {
		return r.cast(r.part(pair.parts[0], n), x.Type.Kids[n], x.To.Kids[n], x.Label)
	}
	return pair.parts[n]
}

// injected is the side of an injection, and what is in it.
func (r *run) injected(v value) (int, value) {
	x := v.term
	if x.Kind == api.Cast {
		side, is := r.injected(v.parts[0])
		return side, r.cast(is, x.Type.Kids[side], x.To.Kids[side], x.Label)
	}
	return int(x.Kind - api.Inl), v.parts[0]
}

func (r *run) cast(v value, from, to api.Type, label int) value {
	stays := value{term: cast(from, to, label, api.Term{}), parts: []value{v}}
	switch {
	case from.Kind == to.Kind && len(from.Kids) == 0:
		return v
	case to.Kind == api.Unknown:
		ground, _ := types.Ground(from)
		if types.Same(from, ground) {
			return stays
		}
		return r.cast(r.cast(v, from, ground, label), ground, to, label)
	case from.Kind == api.Unknown:
		ground, _ := types.Ground(to)
		if !types.Same(v.term.Type, ground) {
			panic(ending{api.ErrBlame, label})
		}
		return r.cast(v.parts[0], ground, to, label)
	}
	return stays
}

func operated(operator string, a, b int64) value {
	number := func(n int64) value { return value{term: api.Term{Kind: api.Num, Num: n}} }
	truth := func(yes bool) value {
		if yes {
			return value{term: node(api.Yes)}
		}
		return value{term: node(api.No)}
	}
	switch operator {
	case "+":
		return number(a + b)
	case "-":
		return number(a - b)
	case "*":
		return number(a * b)
	case "<":
		return truth(a < b)
	case "=":
		return truth(a == b)
	}
	if b == 0 {
		panic(ending{code: api.ErrDivide})
	}
	return number(a / b)
}

// The test's own writing of the meaning ends as chapters 17 and 19 tell.
func TestTheMeaning(t *testing.T) {
	f := castText("? -> ?", "int -> int", 3, castText("int -> int", "? -> ?", 4, term(`\x:int.x`)))
	toBool := castText("? -> ?", "int -> bool", 3, f.Kids[0])
	for _, x := range []struct {
		term api.Term
		want ending
		num  int64
	}{
		{term(`(\x:int.x+1)(2)`), ending{}, 3},
		{castText("?", "int", 5, castText("int", "?", 2, term(`7`))), ending{}, 7},
		{castText("?", "bool", 5, castText("int", "?", 2, term(`7`))), ending{api.ErrBlame, 5}, 0},
		{node(api.App, f, term(`1`)), ending{}, 1},
		{node(api.App, toBool, term(`1`)), ending{api.ErrBlame, 3}, 0},
		{node(api.App, castText("int -> int", "? -> int", 6, term(`\x:int.x`)), castText("bool", "?", 2, term(`true`))), ending{api.ErrBlame, -6}, 0},
		{node(api.Snd, castText("? * ?", "int * bool", -7, term(`[1:int:?, 2:int:?]`))), ending{api.ErrBlame, -7}, 0},
		{node(api.Fst, castText("? * ?", "int * bool", -7, term(`[1:int:?, 2:int:?]`))), ending{}, 1},
		{term(`(rec f(x:int):int.if x<1 then 0 else f(x-1)+x)(4)`), ending{}, 10},
		{term(`(rec f(x:int):int.f(x))(4)`), ending{api.ErrFuel, 0}, 0},
		{term(`1/0`), ending{api.ErrDivide, 0}, 0},
		{term(`case inr{bool+int}5:bool+int:?+? of x.1 | x.(x:?:int)+1`), ending{}, 6},
		{term(`case inr{bool+int}5:bool+int:?:?:int+int of x.1 | x.x+1`), ending{}, 6},
		{term(`case inl{bool+int}true:bool+int:?:?:int+int of x.x | x.x`), ending{api.ErrBlame, 36}, 0},
		{term(`let x:?=1:int:? in (\y:?.x:?:int)(true:bool:?)`), ending{}, 1},
		{term(`(\x:int.\y:int.x-y)(5)(3)`), ending{}, 2},
	} {
		if v, how := ended(x.term, 1000); how != x.want || how.code == api.OK && (v.term.Kind != api.Num || v.term.Num != x.num) {
			t.Errorf("%s: %v, %v; want %v, %d", shortOf(x.term), v.term, how, x.want, x.num)
		}
	}
	if v, how := ended(samples.Term(`[true, \x:int.x]`), 0); how != (ending{}) || v.parts[0].term.Kind != api.Yes || v.parts[1].term.Kind != api.Lam {
		t.Error(v, how)
	}
}
