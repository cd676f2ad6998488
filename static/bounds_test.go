package static_test

import (
	"testing"

	"lychgate/api"
	"lychgate/static"
	"lychgate/terms"
	"lychgate/types"
)

// P11.2: this file's tests. A type may be greater than what it is told of: a name stands for a type.

// balanced is a type with so many leaves, no deeper than it must be: it has twice as many nodes, less one.
func balanced(kind int8, leaves int, leaf api.Type) api.Type {
	if leaves == 1 {
		return leaf
	}
	return of(kind, balanced(kind, leaves-leaves/2, leaf), balanced(kind, leaves/2, leaf))
}

// held is a text's term, below a Lam in which x is of that type.
func held(a api.Type, text string) api.Term {
	return api.Term{Kind: api.Lam, Name: "x", Type: a, At: -1, Kids: []api.Term{term(text)}}
}

// outgrows wants a term in which x is of that type to be refused at the mark.
func outgrows(t *testing.T, a api.Type, code api.Errno, marked string) {
	t.Helper()
	want, text := at(code, marked)
	refuses(t, held(a, text), want)
}

// outgrowsWhole wants what is held to be well, but not what holds it.
func outgrowsWhole(t *testing.T, a api.Type, code api.Errno, text string) {
	t.Helper()
	refuses(t, held(a, text), api.Fault{Code: code, At: -1})
}

// grows wants a term in which x is of that type to have a type of so many nodes, and so deep.
func grows(t *testing.T, a api.Type, text string, nodes, depth int) {
	t.Helper()
	whole, err := static.Type(held(a, text))
	if err != nil {
		t.Errorf("%s: %v", text, err)
		return
	}
	b := whole.Kids[1]
	if types.Nodes(b) != nodes || types.Depth(b) != depth || types.Check(whole) != api.OK || !types.Same(whole.Kids[0], a) {
		t.Errorf("%s: nodes %d, depth %d; want %d, %d", text, types.Nodes(b), types.Depth(b), nodes, depth)
	}
}

func TestTypesThatAreTooBig(t *testing.T) {
	third := balanced(api.Pair, 1365, integer()) // 2729 nodes
	grows(t, third, `x`, 2729, 12)
	grows(t, third, `[x, x]`, 5459, 13)
	grows(t, third, `[x, [x, 1]]`, 5461, 14)
	grows(t, third, `fst [[x, x], x]`, 5459, 13)
	grows(t, third, `fst [[x, [x, 1]], [fst x, 1]]`, 5461, 14)
	grows(t, third, `if true then [x, x] else [x, x]`, 5459, 13)
	grows(t, third, `case inl{int+bool}1 of y.[x, x] | y.[x, x]`, 5459, 13)
	grows(t, third, `(\y:int.[x, y])(1)`, 2731, 13)
	outgrowsWhole(t, third, api.ErrTooBig, `[x, [x, [1, 2]]]`)
	outgrowsWhole(t, third, api.ErrTooBig, `[[x, x], [x, 1]]`)
	outgrowsWhole(t, third, api.ErrTooBig, `\y:int.[x, [x, 1]]`)
	outgrows(t, third, api.ErrTooBig, `^[x, [x, [x, [1, 2]]]]`)
	outgrows(t, third, api.ErrTooBig, `^[[[x, 1], [x, 2]], x]`)
	outgrows(t, third, api.ErrTooBig, `^\y:int.[x, [x, [x, 1]]]`)
	outgrows(t, third, api.ErrTooBig, `\y:int.^\z:int.[x, [x, [x, 1]]]`)
	outgrows(t, third, api.ErrTooBig, `fst ^[[x, [x, [x, 1]]], 1]`) // what is told of the whole is not too big
	outgrows(t, third, api.ErrTooBig, `(\y:int.1)(^[[x, x], [x, [1, 2]]])`)
	outgrows(t, third, api.ErrTooBig, `[[x, x], ^[[x, x], [x, [1, 2]]]]`)
	outgrows(t, third, api.ErrTooBig, `let y:int=^[x, [x, [x, [1, 2]]]] in 1`)
	outgrows(t, third, api.ErrTooBig, `1 + fst ^[[x, [x, x]], [1, 2]]`)
}

func TestTypesThatAreTooDeep(t *testing.T) {
	for _, right := range []bool{false, true} {
		for _, kind := range []int8{api.Fun, api.Pair, api.Sum} {
			deep := chain(kind, 198, right, boolean())
			grows(t, deep, `x`, 395, 198)
			grows(t, deep, `[x, 1]`, 397, 199)
			grows(t, deep, `\y:int.x`, 397, 199)
			grows(t, deep, `fst [[x, 1], 2]`, 397, 199)
			grows(t, deep, `if true then [x, 1] else [x, 2]`, 397, 199)
			outgrowsWhole(t, deep, api.ErrTooDeep, `[[x, 1], 2]`)
			outgrowsWhole(t, deep, api.ErrTooDeep, `\y:int.\z:bool.x`)
			outgrows(t, deep, api.ErrTooDeep, `^[[[x, 1], 2], 3]`)
			outgrows(t, deep, api.ErrTooDeep, `^\y:int.\z:int.[x, 1]`)
			outgrows(t, deep, api.ErrTooDeep, `fst ^[1, [2, [3, x]]]`)
			outgrows(t, deep, api.ErrTooDeep, `(^\y:int.[[y, x], 1])(1)`)
			outgrows(t, deep, api.ErrTooDeep, `let y:int=^[1, \z:int.[1, x]] in 1`)
		}
	}
	deepest := node(api.Yes, 9)
	for n := range 199 {
		deepest = node(api.Two, n, deepest, node(api.No, 9))
	}
	if terms.Depth(deepest) != 200 {
		t.Fatal(terms.Depth(deepest))
	}
	takes(t, deepest, chainOf(boolean(), 200))
}

// chainOf is a Pair of a Pair of ..: all leaves are a.
func chainOf(a api.Type, depth int) api.Type {
	b := a
	for range depth - 1 {
		b = of(api.Pair, b, a)
	}
	return b
}

// Too big is told ahead of too deep, and both behind all else of their term, but ahead of what is asked behind it.
func TestWhenBoundsAreAsked(t *testing.T) {
	both := chain(api.Pair, 199, false, balanced(api.Pair, 1800, integer()))
	if types.Nodes(both) < 3700 || types.Depth(both) != 199 {
		t.Fatal(types.Nodes(both), types.Depth(both))
	}
	outgrows(t, both, api.ErrTooBig, `^[x, [x, fst x]]`)
	outgrows(t, both, api.ErrTooDeep, `^[1, [x, x]]`)
	outgrows(t, both, api.ErrTooDeep, `[^[[x, 2], 1], [x, [x, x]]]`)

	half := balanced(api.Pair, 2048, integer())
	outgrows(t, half, api.ErrMatch, `[x, [^fst 1, x]]`)
	outgrows(t, half, api.ErrTooBig, `[^[x, [x, x]], fst 1]`)
	outgrows(t, half, api.ErrMatch, `[^fst 1, [x, [x, x]]]`)
	outgrows(t, half, api.ErrAgree, `^if true then [x, 1] else [x, true]`)
	outgrows(t, half, api.ErrTooBig, `1 + ^[x, [x, x]] + true`)
	outgrows(t, half, api.ErrTooBig, `^[x, [x, x]](1)`)
	outgrows(t, half, api.ErrTooBig, `if ^[x, [x, x]] then 1 else true`)
	outgrows(t, half, api.ErrTooBig, `let y:int=^[x, [x, x]] in y(1)`)
	outgrows(t, half, api.ErrAgree, `^let y:int=[x, x] in [x, [x, x]]`)
	outgrows(t, half, api.ErrTooBig, `rec f(y:int):int.^[x, [x, x]]`)
	outgrows(t, half, api.ErrTooBig, `inl{int}^[x, [x, x]]`)
	outgrows(t, half, api.ErrTooBig, `^[x, [x, x]]:int`)
	outgrowsWhole(t, half, api.ErrTooBig, `[x, x]`)
}

// ErrGradual is ahead of types that are too big, and behind terms that are.
func TestOpenAheadOfBounds(t *testing.T) {
	half := balanced(api.Pair, 2048, integer())
	want, text := at(api.ErrGradual, `[[x, [x, x]], 1^:?]`)
	notStatic(t, held(half, text), want)
	leaf := balanced(api.Pair, 2047, integer())
	notStatic(t, held(of(api.Pair, leaf, unknown()), `[x, [x, x]]`), api.Fault{Code: api.ErrGradual, At: -1})
	notStatic(t, held(balanced(api.Pair, 4097, unknown()), `x`), api.Fault{Code: api.ErrTooBig})
	notStatic(t, held(chain(api.Pair, 200, true, unknown()), `x`), api.Fault{Code: api.ErrTooDeep})
}

// R1, R10: the greatest terms, with the greatest types in them, are told of in good time.
func TestTheGreatest(t *testing.T) {
	big := balanced(api.Pair, 1024, integer())
	choice := name("x", 1)
	for range 10 {
		choice = node(api.If, 2, node(api.Yes, 3), choice, choice)
	}
	all := held(big, "x")
	all.Kids[0] = choice
	if nodes := terms.Nodes(all); nodes > api.MaxNodes {
		t.Fatal(nodes)
	}
	takes(t, all, of(api.Fun, big, big))
	for range 180 {
		choice = api.Term{Kind: api.Lam, Name: "y", Type: integer(), At: 4, Kids: []api.Term{choice}}
	}
	all.Kids[0] = choice
	want := big
	for range 180 {
		want = of(api.Fun, integer(), want)
	}
	takes(t, all, of(api.Fun, big, want))
}
