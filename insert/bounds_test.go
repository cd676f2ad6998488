package insert_test

import (
	"strings"
	"testing"

	"lychgate/api"
	"lychgate/check"
	"lychgate/insert"
	"lychgate/terms"
	"lychgate/types"
)

// P12.1: this file's tests. What a term becomes may be greater and deeper than it is itself.

// held is a text's term, below a Lam in which x is of that type.
func held(a api.Type, text string) api.Term {
	return api.Term{Kind: api.Lam, Name: "x", Type: a, At: 1 << 20, Kids: []api.Term{term(text)}}
}

// grows wants x to become a term of so many nodes, and so deep.
func grows(t *testing.T, x api.Term, nodes, depth int) {
	t.Helper()
	u, a, err := insert.Term(x)
	b, errToo := check.Type(x)
	if err != nil || errToo != nil || terms.Nodes(u) != nodes || terms.Depth(u) != depth || terms.Check(u) != api.OK || !types.Same(a, b) {
		t.Errorf("%s: %v, %v; nodes %d, depth %d; want %d, %d", shortTerm(x), err, errToo, terms.Nodes(u), terms.Depth(u), nodes, depth)
	}
}

// outgrows wants x, which check takes, to become what is too great.
func outgrows(t *testing.T, x api.Term, code api.Errno) {
	t.Helper()
	if _, err := check.Type(x); err != nil {
		t.Errorf("the test's own term: %s: %v", shortTerm(x), err)
	}
	refuses(t, x, api.Fault{Code: code})
}

func TestTooBig(t *testing.T) {
	half := balanced(api.Pair, 2047, integer()) // 4093 nodes
	grows(t, held(half, `x:?`), 8190, 14)
	grows(t, held(half, `[x:?, 1]`), 8192, 15)
	outgrows(t, held(half, `[x:?, snd x]`), api.ErrTooBig)
	outgrows(t, held(half, `[x:?, [1, 2]]`), api.ErrTooBig)
	outgrows(t, held(half, `[x:?, x:?]`), api.ErrTooBig)
	grows(t, held(half, `[1:int:int:int:int, 2]`), 4097, 13) // what is gone does not count

	open := balanced(api.Pair, 1364, unknown()) // 2727 nodes, twice in a cast from it to its like
	closed := balanced(api.Pair, 1364, integer())
	known := api.Term{Kind: api.Is, Type: closed, At: 5, Kids: []api.Term{name("x", 4)}}
	whole := api.Term{Kind: api.Lam, Name: "x", Type: open, At: 1 << 20, Kids: []api.Term{known}}
	grows(t, whole, 8184, 14)
	less := node(api.Two, 6, known, term(`[1, [2, 3:int]]`))
	whole.Kids = []api.Term{less}
	grows(t, whole, 8190, 15)
	whole.Kids = []api.Term{node(api.Two, 7, less, term(`1`))}
	grows(t, whole, 8192, 16)
	whole.Kids = []api.Term{node(api.Two, 7, less, term(`fst [1, 2]`))}
	outgrows(t, whole, api.ErrTooBig)
}

// many is a text n times, with something behind each.
func many(n int, text, behind string) string {
	return strings.Repeat(text, n) + behind
}

func TestTooDeep(t *testing.T) {
	grows(t, held(unknown(), many(98, "fst ", "x")), 2+98*6+1, 199) // each has a Cast over what it takes, and below that a pair of two
	grows(t, held(unknown(), "["+many(98, "snd ", "x")+", 1]"), 2+98*6+3, 200)
	grows(t, held(unknown(), "["+many(98, "fst ", "x")+", [1, 2]:?]"), 2+98*6+10, 200)
	outgrows(t, held(unknown(), "[["+many(98, "fst ", "x")+", 1], 2]"), api.ErrTooDeep)
	outgrows(t, held(unknown(), many(99, "fst ", "x")), api.ErrTooDeep)
	outgrows(t, held(unknown(), many(198, "snd ", "x")), api.ErrTooDeep)
	for _, right := range []bool{false, true} {
		deep := chain(api.Sum, 197, right, unknown())
		grows(t, held(deep, `x:?`), 4+2*393, 199)
		grows(t, held(deep, `[x:?, 1]`), 6+2*393, 200)
		outgrows(t, held(deep, `[1, [x:?, 1]]`), api.ErrTooDeep)
		outgrows(t, held(deep, `[1, \y:?.(x:?)]`), api.ErrTooDeep)
	}
	grows(t, held(integer(), `x`+many(190, ":int", "")), 3, 2) // what is gone does not count
	grows(t, held(integer(), `x`+many(198, ":int", "")), 3, 2)
}

// Too big is told ahead of too deep, and both behind the places that no label tells, which are told behind check's faults.
func TestWhichIsFirst(t *testing.T) {
	big := balanced(api.Pair, 1024, integer()) // 2047 nodes
	deep := many(150, "fst ", "(x:?)")
	for text, code := range map[string]api.Errno{
		`[x:?, [x:?, [x:?, x:?]]]`: api.ErrTooBig,
		deep:                       api.ErrTooDeep,
		`[` + deep + `, [x:?, [x:?, [x:?, x:?]]]]`: api.ErrTooBig,
		`[[x:?, [x:?, [x:?, x:?]]], ` + deep + `]`: api.ErrTooBig,
	} {
		x := held(big, text)
		outgrows(t, x, code)
		bad := api.Term{Kind: api.Is, Kids: []api.Term{node(api.Yes, -1)}} // true:?
		for _, y := range []api.Term{node(api.Two, 1, bad, x), node(api.Two, 1, x, bad)} {
			refuses(t, y, api.Fault{Code: api.ErrArg})
			refuses(t, node(api.Two, 3, y, name("z", 7)), api.Fault{Code: api.ErrName, At: 7, Word: "z"})
			refuses(t, node(api.Fst, 3, node(api.Two, 4, node(api.App, 5, y, y), y)), api.Fault{Code: api.ErrMatch, At: 5})
		}
	}
	refuses(t, held(balanced(api.Pair, 2048, integer()), `[x:?, [x, [x, x]]]`), api.Fault{Code: api.ErrTooBig, At: 6}) // what check tells of a type
	refuses(t, held(chain(api.Pair, 199, true, unknown()), `[x:?, [[x, 1], 2]]`), api.Fault{Code: api.ErrTooDeep, At: 6})
}

// R1, R10: the greatest terms, with the greatest types in them, are told of in good time.
func TestTheGreatest(t *testing.T) {
	big := balanced(api.Pair, 1024, integer())
	open := balanced(api.Pair, 1024, unknown())
	choice, of3 := name("x", 1), name("y", 2)
	for range 9 {
		choice = node(api.If, 3, node(api.Yes, 4), choice, choice)
		of3 = node(api.If, 3, node(api.No, 4), choice, of3)
	}
	for _, a := range []api.Type{big, open} {
		x := api.Term{Kind: api.Lam, Name: "x", Type: a, Kids: []api.Term{choice}}
		becomes(t, x, x, of(api.Fun, a, a))
	}
	x := api.Term{Kind: api.Lam, Name: "y", Type: open, Kids: []api.Term{held(big, "x")}}
	x.Kids[0].Kids = []api.Term{of3}
	outgrows(t, x, api.ErrTooBig) // each choice casts one of the two
	for range 150 {
		x = api.Term{Kind: api.Lam, Name: "z", Type: unknown(), At: 4, Kids: []api.Term{x}}
	}
	outgrows(t, x, api.ErrTooBig)

	deep := term(`1`)
	for range 99 {
		deep = api.Term{Kind: api.Is, Type: unknown(), At: 9, Kids: []api.Term{node(api.Fst, 8, deep)}}
	}
	refuses(t, deep, api.Fault{Code: api.ErrMatch, At: 8})
}
