package check_test

import (
	"strings"
	"testing"

	"lychgate/api"
	"lychgate/check"
	"lychgate/terms"
	"lychgate/types"
)

// P9.1: this file's tests. A type may be greater than what it is told of: a name stands for a type.

// balanced is a type with so many leaves, no deeper than it must be: it has twice as many nodes, less one.
func balanced(kind int8, leaves int, leaf api.Type) api.Type {
	if leaves == 1 {
		return leaf
	}
	return of(kind, balanced(kind, leaves-leaves/2, leaf), balanced(kind, leaves/2, leaf))
}

// held is a text's term, in which x is of that type.
func held(a api.Type, text string) api.Term {
	open := api.Term{Kind: api.Is, At: -2, Kids: []api.Term{node(api.Yes, -3)}}
	return api.Term{Kind: api.Let, Name: "x", Type: a, At: -1, Kids: []api.Term{open, term(text)}}
}

// at is the fault of that code at the mark ^ of a text, and the text without it.
func at(code api.Errno, marked string) (api.Fault, string) {
	return api.Fault{Code: code, At: strings.Index(marked, "^")}, strings.Replace(marked, "^", "", 1)
}

// outgrows wants a term in which x is of that type to be refused at the mark.
func outgrows(t *testing.T, a api.Type, code api.Errno, marked string) {
	t.Helper()
	want, text := at(code, marked)
	refuses(t, held(a, text), want)
}

// grows wants a term in which x is of that type to have a type of so many nodes, and so deep.
func grows(t *testing.T, a api.Type, text string, nodes, depth int) {
	t.Helper()
	b, err := check.Type(held(a, text))
	if err != nil || types.Nodes(b) != nodes || types.Depth(b) != depth || types.Check(b) != api.OK {
		t.Errorf("%s: %v, nodes %d, depth %d; want %d, %d", text, err, types.Nodes(b), types.Depth(b), nodes, depth)
	}
}

func TestTypesThatAreTooBig(t *testing.T) {
	half := balanced(api.Pair, 2048, integer()) // 4095 nodes
	grows(t, half, `x`, 4095, 12)
	grows(t, half, `[x, x]`, 8191, 13)
	grows(t, half, `\y:?.[x, [fst x, 1]]`, 4095+2047+5, 14)
	grows(t, half, `fst [[x, 1], 2]`, 4097, 13)
	grows(t, half, `(\y:?.[x, y])(x)`, 4097, 13)
	outgrows(t, half, api.ErrTooBig, `^[x, [x, 1]]`)
	outgrows(t, half, api.ErrTooBig, `^[[1, x], x]`)
	outgrows(t, half, api.ErrTooBig, `^\y:?.[x, x]`)
	outgrows(t, half, api.ErrTooBig, `\y:?.^\z:?.[x, x]`)
	outgrows(t, half, api.ErrTooBig, `fst ^[[x, x], 1]`) // what is told of the whole is not too big
	outgrows(t, half, api.ErrTooBig, `(\y:?.1)(^[x, [x, x]])`)
	outgrows(t, half, api.ErrTooBig, `[[x, x], ^[1, [x, x]]]`)
	outgrows(t, half, api.ErrTooBig, `let y:?=^[x, [1, x]] in 1`)
	outgrows(t, half, api.ErrTooBig, `1 + fst ^[[x, x], 1]`)

	argument := balanced(api.Pair, 1365, integer())
	lam := func(a api.Type) api.Term {
		return api.Term{Kind: api.Lam, Name: "x", Type: a, At: 70, Kids: []api.Term{term(`[x, x]`)}}
	}
	a, err := check.Type(lam(argument))
	if err != nil || types.Nodes(a) != 3*2729+2 {
		t.Errorf("%v, %d", err, types.Nodes(a))
	}
	refuses(t, lam(balanced(api.Pair, 1366, integer())), api.Fault{Code: api.ErrTooBig, At: 70})
}

// A Meet may be greater than both.
func TestMeetsThatAreTooBig(t *testing.T) {
	half := balanced(api.Sum, 2048, boolean())
	grows(t, half, `if true then [x, 1:?] else [1:?, x]`, 8191, 13)
	grows(t, half, `case (1:?) of y.[x, 1:?] | y.[1:?, x]`, 8191, 13)
	outgrows(t, half, api.ErrTooBig, `^if true then [x, 1:?] else [1:?, [x, 1]]`)
	outgrows(t, half, api.ErrTooBig, `^case (1:?) of y.[x, 1:?] | y.[y, [1, x]]`)
	outgrows(t, half, api.ErrTooBig, `fst (^if true then [x, 1:?] else [1:?, [x, 1]])`)
	outgrows(t, half, api.ErrTooBig, `1 + (^case (1:?) of y.[x, 1:?] | y.[y, [1, x]])`)
}

func TestTypesThatAreTooDeep(t *testing.T) {
	for _, right := range []bool{false, true} {
		for _, kind := range []int8{api.Fun, api.Pair, api.Sum} {
			deep := chain(kind, 199, right, boolean())
			grows(t, deep, `x`, 397, 199)
			grows(t, deep, `[x, 1]`, 399, 200)
			grows(t, deep, `\y:?.x`, 399, 200)
			grows(t, deep, `if true then [x, 1:?] else [1:?, x]`, 795, 200)
			outgrows(t, deep, api.ErrTooDeep, `^[[x, 1], 2]`)
			outgrows(t, deep, api.ErrTooDeep, `^\y:?.\z:?.x`)
			outgrows(t, deep, api.ErrTooDeep, `fst ^[1, [2, x]]`)
			outgrows(t, deep, api.ErrTooDeep, `(^\y:?.[y, x])(1)`)
			outgrows(t, deep, api.ErrTooDeep, `let y:?=^[1, \z:?.x] in 1`)
			lam := api.Term{Kind: api.Lam, Name: "x", Type: deep, At: 70, Kids: []api.Term{name("x", 71)}}
			takes(t, lam, of(api.Fun, deep, deep))
			lam.Kids = []api.Term{node(api.Two, 72, name("x", 73), name("x", 74))}
			refuses(t, lam, api.Fault{Code: api.ErrTooDeep, At: 70})
		}
	}
	deepest := node(api.Yes, 9)
	for n := range 199 {
		deepest = node(api.Two, n, deepest, node(api.No, 9))
	}
	if terms.Depth(deepest) != 200 {
		t.Fatal(terms.Depth(deepest))
	}
	a, err := check.Type(deepest)
	if err != nil || types.Depth(a) != 200 {
		t.Error(err, types.Depth(a))
	}
}

// Too big is told ahead of too deep, and both behind all else of their term, but ahead of what is asked behind it.
func TestWhenBoundsAreAsked(t *testing.T) {
	both := chain(api.Pair, 199, false, balanced(api.Pair, 1800, integer()))
	if types.Nodes(both) < 3700 || types.Depth(both) != 199 {
		t.Fatal(types.Nodes(both), types.Depth(both))
	}
	outgrows(t, both, api.ErrTooBig, `^[x, [x, fst x]]`)
	outgrows(t, both, api.ErrTooDeep, `^[1, [x, x]]`)
	outgrows(t, both, api.ErrTooDeep, `[^[[x, 2], 1], [x, [x, x]]]`)

	half := balanced(api.Pair, 2048, integer())
	outgrows(t, half, api.ErrAgree, `^if 1 then [x, 1:?] else [1:?, [x, 1]]`)
	outgrows(t, half, api.ErrMatch, `^case 1 of y.[x, 1:?] | y.[1:?, [x, 1]]`)
	outgrows(t, half, api.ErrAgree, `^if true then [[x, 1:?], 1] else [[1:?, x], true]`)
	outgrows(t, half, api.ErrMatch, `[x, [^fst 1, x]]`)
	outgrows(t, half, api.ErrTooBig, `[^[x, [x, x]], fst 1]`)
	outgrows(t, half, api.ErrMatch, `[^fst 1, [x, [x, x]]]`)
	outgrows(t, half, api.ErrTooBig, `1 + ^[x, [x, x]] + true`)
	outgrows(t, half, api.ErrTooBig, `^[x, [x, x]](1)`)
	outgrows(t, half, api.ErrTooBig, `if ^[x, [x, x]] then 1 else true`)
	outgrows(t, half, api.ErrTooBig, `let y:int=^[x, [x, x]] in y(1)`)
	outgrows(t, half, api.ErrAgree, `^let y:int=[x, x] in [x, [x, x]]`)
	outgrows(t, half, api.ErrTooBig, `rec f(y:int):int.^[x, [x, x]]`)
	outgrows(t, half, api.ErrTooBig, `inl{int}^[x, [x, x]]`)
	outgrows(t, half, api.ErrTooBig, `^[x, [x, x]]:int`)
}

// R1, R10: the greatest terms, with the greatest types in them, are told of in good time.
func TestTheGreatest(t *testing.T) {
	big := balanced(api.Pair, 1024, unknown())
	choice := name("x", 1)
	for range 10 {
		choice = node(api.If, 2, node(api.Yes, 3), choice, choice)
	}
	if nodes := terms.Nodes(held(big, "x")) + terms.Nodes(choice); nodes > api.MaxNodes {
		t.Fatal(nodes)
	}
	all := held(big, "x")
	all.Kids[1] = choice
	takes(t, all, big)
	for range 180 {
		choice = api.Term{Kind: api.Lam, Name: "y", At: 4, Kids: []api.Term{choice}}
	}
	all.Kids[1] = choice
	want := big
	for range 180 {
		want = of(api.Fun, unknown(), want)
	}
	takes(t, all, want)
}
