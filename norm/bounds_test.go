package norm_test

import (
	"testing"

	"lychgate/api"
	"lychgate/norm"
	"lychgate/samples"
	"lychgate/types"
)

// tree is so many leaves, two and two in a coercion of that kind, no deeper than must be.
func tree(kind int8, leaves int, leaf api.Co) api.Co {
	if leaves == 1 {
		return leaf
	}
	return node(kind, tree(kind, leaves-leaves/2, leaf), tree(kind, leaves/2, leaf))
}

// within is c with so many of that kind around it.
func within(c api.Co, kind int8, n int, left bool) api.Co {
	for range n {
		if left {
			c = node(kind, c, id(boolean()))
		} else {
			c = node(kind, id(boolean()), c)
		}
	}
	return c
}

// nodes is how many there are in c, with those of its types.
func nodes(c api.Co) int {
	all := 0
	for _, piece := range samples.CoAll(c) {
		all++
		if piece.Kind < api.CoFun {
			all += types.Nodes(piece.Type)
		}
		if piece.Kind == api.CoFail {
			all += types.Nodes(piece.To)
		}
	}
	return all
}

// filler is in normal form and has so many nodes, 3 or 5 or more. It goes to int, or to a pair of two.
func filler(many int) api.Co {
	if many%2 == 0 {
		return node(api.CoPair, id(integer()), filler(many-3))
	}
	return fail(balanced(api.Sum, (many-1)/2, integer()), integer(), 1)
}

// fits wants a normal form of c, of so many nodes.
func fits(t *testing.T, c api.Co, many int) {
	t.Helper()
	n, e := norm.Norm(c)
	if e != api.OK || !norm.Is(n) || nodes(n) != many {
		t.Errorf("Norm(%s): %v, %d nodes; want %d", shortOf(c), e, nodes(n), many)
	}
}

// P16.2: what is a coercion may have a normal form that is too great by just one node.
func TestNormUpToTheNodes(t *testing.T) {
	for _, kind := range []int8{api.CoFun, api.CoPair, api.CoSum} {
		for many := 8190; many < 8196; many++ {
			c := node(kind, tree(kind, 1300, in(integer())), filler(many-7800)) // 6 a leaf in normal form, less 1; 1 over both
			ends(t, c)
			if many > api.MaxNodes {
				normsNone(t, c, api.ErrTooBig)
			} else {
				fits(t, c, many)
			}
		}
		normsNone(t, tree(kind, 2731, in(integer())), api.ErrTooBig)
	}
	fits(t, id(balanced(api.Sum, 2731, integer())), 8192) // 3 a leaf, less 1
	normsNone(t, id(balanced(api.Sum, 2732, integer())), api.ErrTooBig)
	normsNone(t, id(balanced(api.Fun, 4096, unknown())), api.ErrTooBig)
}

// P16.2: what is a coercion may have a normal form that is too deep by just one.
func TestNormUpToTheDepth(t *testing.T) {
	for _, kind := range []int8{api.CoFun, api.CoPair, api.CoSum} {
		for _, left := range []bool{true, false} {
			for _, x := range []struct {
				c          api.Co
				deep, high int // how deep it is, and in normal form
			}{
				{in(integer()), 2, 3}, {out(boolean(), 1), 2, 3}, {in(typed("? -> ?")), 3, 4}, {out(typed("? + ?"), 2), 3, 4},
			} {
				c := within(x.c, kind, api.MaxDepth-x.high, left)
				fits(t, c, nodes(made(t, x.c))+3*(api.MaxDepth-x.high))
				c = within(c, kind, x.high-x.deep, left)
				ends(t, c)
				normsNone(t, c, api.ErrTooDeep)
			}
			fits(t, id(chain(kind-api.CoFun+api.Fun, 199, left, integer())), 3*199-1) // as deep as its normal form
		}
	}
	both := node(api.CoPair, within(in(integer()), api.CoSum, 197, true), tree(api.CoSum, 1400, in(integer())))
	ends(t, both)
	normsNone(t, both, api.ErrTooBig) // ahead of ErrTooDeep
}

// P16.2: what comes up on the way may be greater and deeper than what comes out.
func TestNormBeyondTheBoundsOnTheWay(t *testing.T) {
	fun := typed("? -> ?")
	for _, kind := range []int8{api.CoPair, api.CoSum} {
		wide, back := tree(kind, 819, in(fun)), tree(kind, 819, out(fun, 3)) // 5 nodes a leaf; 11 in normal form
		normsNone(t, wide, api.ErrTooBig)
		norms(t, seq(wide, back), tree(kind, 819, co("( id { ? } -> id { ? } )")))
		failing := tree(kind, 819, out(integer(), 3))
		norms(t, seq(wide, failing), tree(kind, 819, fail(fun, integer(), 3)))
		from, to := ends(t, wide)
		norms(t, seq(fail(integer(), from, 7), wide), fail(integer(), to, 7))
		norms(t, seq(wide, fail(to, integer(), 7)), fail(from, integer(), 7))
	}
	for _, n := range []int{66, 96} { // there(n) is too deep
		up, down := rising(n), falling(n)
		normsNone(t, seq(up, down), api.ErrTooDeep)
		norms(t, seq(seq(up, down), up), up)
		norms(t, seq(up, seq(down, up)), up)
		norms(t, seq(down, seq(up, down)), down)
		norms(t, seq(seq(up, down), out(integer(), -3)), co("{ ? * ? } ? 1 ; fail { ? * ? } { int } -3"))
		norms(t, seq(fail(integer(), unknown(), 3), seq(up, down)), fail(integer(), unknown(), 3))
	}
}

// rising is a coercion in normal form from ? to a pair, n pairs deep, whose other parts are ?: two deeper for each.
func rising(n int) api.Co {
	if n == 0 {
		return co("{ int } ? 1 ; id { int }")
	}
	return seq(out(typed("? * ?"), 1), node(api.CoPair, id(unknown()), rising(n-1)))
}

// falling goes from there back to ?.
func falling(n int) api.Co {
	if n == 0 {
		return co("id { int } ; { int } !")
	}
	return seq(node(api.CoPair, id(unknown()), falling(n-1)), in(typed("? * ?")))
}

// there is rising and then falling: three deeper for each.
func there(n int) api.Co {
	if n == 0 {
		return co("{ int } ? 1 ; id { int } ; { int } !")
	}
	return seq(out(typed("? * ?"), 1), seq(node(api.CoPair, id(unknown()), there(n-1)), in(typed("? * ?"))))
}

// P16.3: two that are coercions in normal form may merge into what is too deep or too great.
func TestThenUpToTheBounds(t *testing.T) {
	merges(t, rising(65), falling(65), there(65)) // 199 deep
	mergesNone(t, rising(66), falling(66), api.ErrTooDeep)
	mergesNone(t, rising(98), falling(98), api.ErrTooDeep)
	two := func(c api.Co) api.Co { return node(api.CoSum, id(boolean()), c) }
	merges(t, two(rising(65)), two(falling(65)), two(there(65))) // 200
	mergesNone(t, two(two(rising(65))), two(two(falling(65))), api.ErrTooDeep)
	leaf, back, both := co("{ int } ? 1 ; id { int }"), co("id { int } ; { int } !"), co("{ int } ? 1 ; id { int } ; { int } !") // 5, 5, 8 nodes
	for _, kind := range []int8{api.CoPair, api.CoSum} {
		a, b, c := tree(kind, 900, leaf), tree(kind, 900, back), tree(kind, 900, both) // the last: 9 a leaf, less 1
		for many := 8190; many < 8196; many++ {
			rest := filler(many - 8100) // 1 over both
			_, to := ends(t, rest)
			b := node(kind, b, made(t, id(to)))
			if many > api.MaxNodes {
				mergesNone(t, node(kind, a, rest), b, api.ErrTooBig)
			} else {
				merges(t, node(kind, a, rest), b, node(kind, c, rest))
			}
		}
	}
	great := node(api.CoSum, tree(api.CoPair, 900, leaf), node(api.CoPair, rising(66), filler(91)))
	back = node(api.CoSum, tree(api.CoPair, 900, back), node(api.CoPair, falling(66), id(integer())))
	mergesNone(t, great, back, api.ErrTooBig) // ahead of ErrTooDeep
}

// P16.1: the greatest and the deepest that can be.
func TestIsUpToTheBounds(t *testing.T) {
	is(t, tree(api.CoFun, 2731, id(integer())), true)
	is(t, tree(api.CoFun, 2732, id(integer())), false)
	is(t, there(65), true)
	is(t, there(66), false)
	is(t, fail(balanced(api.Fun, 2048, unknown()), balanced(api.Pair, 2048, unknown()), 1), true)
	is(t, within(id(integer()), api.CoSum, 198, true), true)
	is(t, within(id(integer()), api.CoSum, 199, true), false)
	is(t, within(in(integer()), api.CoSum, 198, true), false)
}

// P16.3: two that are as great as can be merge, too: neither is too great for being put with another one.
func TestThenOfTheGreatest(t *testing.T) {
	for _, kind := range []int8{api.CoFun, api.CoPair, api.CoSum} {
		great := tree(kind, 2731, id(integer()))
		merges(t, great, great, great)
		deep := within(id(integer()), kind, 198, true)
		merges(t, deep, deep, deep)
		a, _ := ends(t, great)
		b, _ := ends(t, deep)
		merges(t, great, fail(a, integer(), 3), fail(a, integer(), 3))
		mergesNone(t, great, fail(a, of(api.Sum, a, b), 3), api.ErrCoerce)                     // too great itself
		half, other := balanced(api.Pair, 2048, integer()), balanced(api.Sum, 2048, boolean()) // 4095
		merges(t, fail(half, other, 3), fail(other, half, -4), fail(half, half, 3))
	}
}
