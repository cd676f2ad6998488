package kernel_test

import (
	"testing"

	"lychgate/api"
	"lychgate/kernel"
	"lychgate/terms"
	"lychgate/types"
)

// P13.1: this file's tests. A type may be greater and deeper than what it is told of: a name stands for a type.

// held is a text's term, below a Lam in which x is of that type.
func held(a api.Type, text string) api.Term {
	return api.Term{Kind: api.Lam, Name: "x", Type: a, Kids: []api.Term{term(text)}}
}

// grows wants a term in which x is of that type to have a type of so many nodes, and so deep.
func grows(t *testing.T, a api.Type, text string, nodes, depth int) {
	t.Helper()
	whole, e := kernel.Type(held(a, text))
	if e != api.OK {
		t.Errorf("%s: %v", text, e)
		return
	}
	b := whole.Kids[1]
	if types.Nodes(b) != nodes || types.Depth(b) != depth || types.Check(whole) != api.OK || !types.Same(whole.Kids[0], a) {
		t.Errorf("%s: nodes %d, depth %d; want %d, %d", text, types.Nodes(b), types.Depth(b), nodes, depth)
	}
}

// outgrows wants an error of a term in which x is of that type.
func outgrows(t *testing.T, a api.Type, code api.Errno, all ...string) {
	t.Helper()
	for _, text := range all {
		refuses(t, held(a, text), code)
	}
}

func TestTypesThatAreTooBig(t *testing.T) {
	third := balanced(api.Pair, 1365, unknown()) // 2729 nodes
	grows(t, third, `x`, 2729, 12)
	grows(t, third, `[x, x]`, 5459, 13)
	grows(t, third, `[x, [x, 1]]`, 5461, 14)
	grows(t, third, `fst [[x, [x, 1]], [fst x, 1]]`, 5461, 14)
	grows(t, third, `if true then [x, x] else [x, x]`, 5459, 13)
	grows(t, third, `case inl{int+bool}1 of y.[x, x] | y.[x, x]`, 5459, 13)
	grows(t, third, `(\y:?.[x, y])(1:int:?)`, 2731, 13)
	outgrows(t, third, api.ErrTooBig, `[x, [x, [1, 2]]]`, `[[x, x], [x, 1]]`, `\y:?.[x, [x, 1]]`, `[x, [x, [x, [1, 2]]]]`, `\y:int.[x, [x, [x, 1]]]`, `fst [[x, [x, [x, 1]]], 1]`, `(\y:int.1)([[x, x], [x, [1, 2]]])`, `let y:int=[x, [x, [x, [1, 2]]]] in 1`, `1 + fst [[x, [x, x]], [1, 2]]`, `[x, [x, [x, x]]]:?:int`)

	over := func(from, to api.Type, kid string) api.Term { // a Cast, below a Lam in which x is a third
		return api.Term{Kind: api.Lam, Name: "x", Type: third, Kids: []api.Term{cast(from, to, 1, term(kid))}}
	}
	takes(t, over(third, third, `x`), of(api.Fun, third, third)) // 8190 nodes
	takes(t, over(third, unknown(), `fst [x, 1]`), of(api.Fun, third, unknown()))
	refuses(t, over(third, third, `fst [x, 1]`), api.ErrTooBig) // the term itself
	refuses(t, over(third, unknown(), `[x, [x, [x, [1, 2]]]]`), api.ErrTooBig)
	refuses(t, over(third, unknown(), `[x, [x, [x, 1]]]`), api.ErrCast) // 8191 nodes, and not a third
	refuses(t, over(third, unknown(), `fst [x, [x, [x, [1, 2]]]]`), api.ErrTooBig)
}

func TestTypesThatAreTooDeep(t *testing.T) {
	for _, right := range []bool{false, true} {
		for _, kind := range []int8{api.Fun, api.Pair, api.Sum} {
			deep := chain(kind, 198, right, unknown())
			grows(t, deep, `x`, 395, 198)
			grows(t, deep, `[x, 1:int:?]`, 397, 199)
			grows(t, deep, `\y:?.x`, 397, 199)
			grows(t, deep, `fst [[x, 1], 2]`, 397, 199)
			grows(t, deep, `if true then [x, 1] else [x, 2]`, 397, 199)
			outgrows(t, deep, api.ErrTooDeep, `[[x, 1], 2]`, `\y:int.\z:bool.x`, `[[[x, 1], 2], 3]`, `\y:int.\z:int.[x, 1]`, `fst [1, [2, [3, x]]]`, `(\y:int.[[y, x], 1])(1)`, `let y:int=[1, \z:int.[1, x]] in 1`, `[1, [2, [3, x]]]:?:int`)
			x := held(deep, `x`)
			x.Kids = []api.Term{cast(deep, unknown(), 1, name("x"))}
			takes(t, x, of(api.Fun, deep, unknown()))
			lower := deep.Kids[0]
			if right {
				lower = deep.Kids[1]
			}
			up := api.Term{Kind: api.Lam, Name: "x", Kids: []api.Term{cast(unknown(), lower, 1, name("x"))}}
			takes(t, up, of(api.Fun, unknown(), lower))
			up.Kids = []api.Term{cast(unknown(), deep, 1, name("x"))}
			takes(t, up, of(api.Fun, unknown(), deep)) // 200 deep, the term and the type
			refuses(t, node(api.Two, up, term(`1`)), api.ErrTooDeep)
		}
	}
	deepest := term(`1`)
	for range 199 {
		deepest = cast(integer(), integer(), -1, deepest)
	}
	takes(t, deepest, integer())
	refuses(t, cast(integer(), integer(), -1, deepest), api.ErrTooDeep)
}

// Too big is told ahead of too deep, and both behind all else of their term, but ahead of what is asked behind it.
func TestWhenBoundsAreAsked(t *testing.T) {
	both := chain(api.Pair, 199, false, balanced(api.Pair, 1800, integer()))
	outgrows(t, both, api.ErrTooBig, `[x, [x, fst x]]`, `[[x, x], [x, [x, x]]]`)
	outgrows(t, both, api.ErrTooDeep, `[1, [x, x]]`, `[[[x, 2], 1], [x, [x, x]]]`)

	half := balanced(api.Pair, 2048, integer()) // 4095 nodes
	outgrows(t, half, api.ErrTooBig, `[[x, [x, x]], fst 1]`, `[[x, [x, x]], y]`, `1 + [x, [x, x]] + true`, `[x, [x, x]](1)`, `if [x, [x, x]] then 1 else true`, `let y:int=[x, [x, x]] in y(1)`, `rec f(y:int):int.[x, [x, x]]`, `inl{int}[x, [x, x]]`, `[x, [x, x]]:int:bool`, `[x, x]`, `case [x, [x, x]] of y.z | z.y`, `case inl{int+int}1 of y.[x, [x, x]] | z.y`)
	outgrows(t, half, api.ErrCast, `[x, [fst 1, x]]`, `[fst 1, [x, [x, x]]]`, `[y, [x, [x, x]]]`, `if true then [x, 1] else [x, true]`, `let y:int=[x, x] in [x, [x, x]]`, `case 1 of y.[x, [x, x]] | y.y`, `case inl{int+int}1 of y.z | y.[x, [x, x]]`, `x:int:bool`, `[1:int:bool, [x, [x, x]]]`, `if 1 then x else x`, `x(x)`)
}

// R1, R10: the greatest terms, with the greatest types in them, are told of in good time.
func TestTheGreatest(t *testing.T) {
	big := balanced(api.Pair, 1024, unknown()) // 2047 nodes
	choice := name("x")
	for range 10 {
		choice = node(api.If, node(api.Yes), choice, choice)
	}
	all := api.Term{Kind: api.Lam, Name: "x", Type: big, Kids: []api.Term{choice}}
	if nodes := terms.Nodes(all); nodes > api.MaxNodes {
		t.Fatal(nodes)
	}
	takes(t, all, of(api.Fun, big, big))
	want := big
	for range 180 {
		choice = api.Term{Kind: api.Lam, Name: "y", Type: integer(), Kids: []api.Term{choice}}
		want = of(api.Fun, integer(), want)
	}
	all.Kids = []api.Term{choice}
	takes(t, all, of(api.Fun, big, want))

	whole := balanced(api.Sum, 1300, integer()) // 2599 nodes
	opened := of(api.Sum, unknown(), whole.Kids[1])
	twice := node(api.Two, cast(whole, opened, 1, name("x")), name("x"))
	all = api.Term{Kind: api.Lam, Name: "x", Type: whole, Kids: []api.Term{twice}}
	takes(t, all, of(api.Fun, whole, of(api.Pair, opened, whole)))
}
