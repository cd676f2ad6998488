package terms_test

import (
	"errors"
	"maps"
	"math/rand"
	"reflect"
	"slices"
	"testing"

	"lychgate/api"
	"lychgate/scan"
	"lychgate/terms"
	"lychgate/types"
)

func someType(random *rand.Rand, depth int) api.Type {
	kind := int8(random.Intn(7))
	if depth == 1 || kind > api.Sum {
		kind %= 3
	}
	if kind <= api.Bool {
		return typeOf(kind)
	}
	return typeOf(kind, someType(random, depth-1), someType(random, depth-1))
}

func one[T any](random *rand.Rand, of ...T) T { return of[random.Intn(len(of))] }

// some is a term of any kind up to a depth, with something in every field.
func some(random *rand.Rand, depth int) api.Term {
	kind := random.Intn(len(table))
	for depth == 1 && table[kind].kids > 0 {
		kind = random.Intn(len(table))
	}
	t := api.Term{
		Kind: int8(kind), Name: one(random, "x", "y", "z", "f"), Arg: one(random, "x", "y", "z", "f"), Num: int64(random.Intn(5) - 2),
		Type: someType(random, 3), To: someType(random, 3), Label: one(random, 1, -1, 2, 1<<31), At: random.Intn(100),
	}
	if kind == api.Op {
		t.Name = one(random, "+", "-", "*", "/", "<", "=")
	}
	for range table[kind].kids {
		t.Kids = append(t.Kids, some(random, depth-1))
	}
	return t
}

// spoilt is t, of which here and there something is changed, so that most often it is no term.
func spoilt(random *rand.Rand, t api.Term) api.Term {
	t.Kids = slices.Clone(t.Kids)
	switch random.Intn(60) {
	case 0:
		t.Kind = int8(random.Intn(256) - 128)
	case 1:
		t.Kind = int8(random.Intn(len(table)))
	case 2:
		t.Name = one(random, "", "+", "in", "ok", "%", "9")
	case 3:
		t.Arg = one(random, "", "+", "in", "ok")
	case 4:
		t.Type = one(random, typeOf(api.Fun), typeOf(6), fun(typeOf(api.Int), typeOf(api.Bool, integer())), deepType(199))
	case 5:
		t.To = one(random, typeOf(api.Pair, integer()), typeOf(-1), deepType(200), fullType(13))
	case 6:
		t.Label = one(random, 0, 1<<31+1, -1<<31-1, -1<<31)
	case 7:
		t.Kids = append(t.Kids, name("x"))
	case 8:
		t.Kids = t.Kids[:len(t.Kids)/2]
	}
	for n, kid := range t.Kids {
		t.Kids[n] = spoilt(random, kid)
	}
	return t
}

// manyTerms are always the same ones: terms, and among them some that are none.
func manyTerms() []api.Term {
	random := rand.New(rand.NewSource(3))
	var all []api.Term
	for n := range 4000 {
		t := some(random, 1+n%7)
		if n%2 == 0 {
			t = spoilt(random, t)
		}
		all = append(all, t)
	}
	for _, x := range edges() {
		all = append(all, x.t)
	}
	return all
}

// ruled tells what Check must, by the table, and by Nodes and Depth.
func ruled(t api.Term) api.Errno {
	switch {
	case terms.Nodes(t) > api.MaxNodes:
		return api.ErrTooBig
	case terms.Depth(t) > api.MaxDepth:
		return api.ErrTooDeep
	case !ruledOne(t):
		return api.ErrTerm
	}
	return api.OK
}

func ruledOne(t api.Term) bool {
	if t.Kind < 0 || int(t.Kind) >= len(table) || len(t.Kids) != table[t.Kind].kids {
		return false
	}
	for field, holds := range map[string]bool{
		"Name":  scan.Name(t.Name) && t.Kind != api.Op || slices.Contains([]string{"+", "-", "*", "/", "<", "="}, t.Name) && t.Kind == api.Op,
		"Arg":   scan.Name(t.Arg),
		"Type":  types.Check(t.Type) == api.OK,
		"To":    types.Check(t.To) == api.OK,
		"Label": t.Label != 0 && t.Label >= -1<<31 && t.Label <= 1<<31,
	} {
		if counts(int(t.Kind), field) && !holds {
			return false
		}
	}
	return !slices.ContainsFunc(t.Kids, func(kid api.Term) bool { return !ruledOne(kid) })
}

// P3.1, told a second time.
func TestCheckAgainstTheTable(t *testing.T) {
	told := map[api.Errno]int{}
	for _, x := range manyTerms() {
		e := terms.Check(x)
		if want := ruled(x); e != want {
			t.Fatalf("Check(%+v) = %v, want %v", x, e, want)
		}
		told[e]++
	}
	if len(told) != 4 || told[api.OK] < 1000 || told[api.ErrTerm] < 500 {
		t.Errorf("too few of a sort: %v", told)
	}
}

// P3.2, told a second time, and P3.6: a whole has more nodes than each kid, and is deeper.
func TestNodesAndDepthOfKids(t *testing.T) {
	for _, x := range manyTerms() {
		ownNodes, ownDepth := terms.Nodes(x), terms.Depth(x)
		nodes, depth := 1, 0
		if x.Kind >= 0 && int(x.Kind) < len(table) {
			for field, a := range map[string]api.Type{"Type": x.Type, "To": x.To} {
				if counts(int(x.Kind), field) {
					nodes, depth = nodes+types.Nodes(a), max(depth, types.Depth(a))
				}
			}
		}
		for _, kid := range x.Kids {
			n, d := terms.Nodes(kid), terms.Depth(kid)
			nodes, depth = nodes+n, max(depth, d)
			if ownNodes <= n && ownNodes <= api.MaxNodes {
				t.Errorf("Nodes: %d, of a kid %d", ownNodes, n)
			}
			if ownDepth <= d && ownDepth <= api.MaxDepth {
				t.Errorf("Depth: %d, of a kid %d", ownDepth, d)
			}
		}
		depth++
		if nodes > api.MaxNodes {
			nodes, depth = api.MaxNodes+1, api.MaxDepth+1
		}
		if ownNodes != nodes || ownDepth != min(depth, api.MaxDepth+1) {
			t.Errorf("Nodes %d, want %d; Depth %d, want %d", ownNodes, nodes, ownDepth, depth)
		}
	}
}

type set map[string]bool

// without is s but for some names; no name is as well as none.
func (s set) without(names ...string) set {
	rest := maps.Clone(s)
	for _, n := range names {
		delete(rest, n)
	}
	return rest
}

// freeByRules tells what is free in t by what is free in its kids.
func freeByRules(t api.Term) set {
	var kids []set
	for _, kid := range t.Kids {
		kids = append(kids, freeByRules(kid))
	}
	switch t.Kind {
	case api.Var:
		return set{t.Name: true}
	case api.Lam:
		kids[0] = kids[0].without(t.Name)
	case api.Rec:
		kids[0] = kids[0].without(t.Name, t.Arg)
	case api.Let:
		kids[1] = kids[1].without(t.Name)
	case api.Case:
		kids[1], kids[2] = kids[1].without(t.Name), kids[2].without(t.Arg)
	}
	all := set{}
	for _, kid := range kids {
		maps.Copy(all, kid)
	}
	return all
}

// P3.4 and P3.7.
func TestFreeByTheRulesOfBinding(t *testing.T) {
	many := 0
	for _, x := range manyTerms() {
		if terms.Check(x) != api.OK {
			continue
		}
		want := slices.Sorted(maps.Keys(freeByRules(x)))
		if got := terms.Free(x); !slices.Equal(got, want) {
			t.Fatalf("Free(%+v) = %q, want %q", x, got, want)
		}
		if len(want) > 1 {
			many++
		}
	}
	if many < 200 {
		t.Errorf("only %d with more than one", many)
	}
}

// P3.7.
func TestWhatABinderAroundAllBindsIsNotFree(t *testing.T) {
	random, i := rand.New(rand.NewSource(4)), integer()
	for range 2000 {
		a, b, c := some(random, 4), some(random, 4), some(random, 4)
		x, y := one(random, "x", "y", "z", "f"), one(random, "x", "y", "z", "f")
		free := func(t api.Term, bound ...string) []string {
			return slices.DeleteFunc(terms.Free(t), func(name string) bool { return slices.Contains(bound, name) })
		}
		for _, told := range []struct {
			whole api.Term
			free  [][]string
		}{
			{lam(x, i, a), [][]string{free(a, x)}},
			{rec(x, y, i, i, a), [][]string{free(a, x, y)}},
			{let(x, i, a, b), [][]string{free(a), free(b, x)}},
			{caseOf(a, x, b, y, c), [][]string{free(a), free(b, x), free(c, y)}},
			{of(api.If, a, b, c), [][]string{free(a), free(b), free(c)}},
		} {
			want := slices.Concat(told.free...)
			slices.Sort(want)
			if got := terms.Free(told.whole); !slices.Equal(got, slices.Compact(want)) {
				t.Fatalf("Free(%+v) = %q, want %q", told.whole, got, slices.Compact(want))
			}
		}
	}
}

// P3.6.
func TestBareIsTheSameAndBareOfBareIsBare(t *testing.T) {
	for _, x := range manyTerms() {
		b := terms.Bare(x)
		if terms.Check(x) != api.OK {
			if !reflect.DeepEqual(b, api.Term{}) {
				t.Fatalf("Bare(%+v) = %+v", x, b)
			}
			continue
		}
		if !terms.Same(x, b) || !terms.Same(b, x) || !reflect.DeepEqual(terms.Bare(b), b) {
			t.Fatalf("Bare(%+v) = %+v, Bare of that %+v", x, b, terms.Bare(b))
		}
	}
}

// junk is t with other things in all that does not count.
func junk(random *rand.Rand, t api.Term) api.Term {
	other := some(random, 1)
	other.Kind, other.Name, other.Type = t.Kind, "not a name", typeOf(99)
	for field, take := range map[string]func(){
		"Name":  func() { other.Name = t.Name },
		"Arg":   func() { other.Arg = t.Arg },
		"Num":   func() { other.Num = t.Num },
		"Type":  func() { other.Type = t.Type },
		"To":    func() { other.To = t.To },
		"Label": func() { other.Label = t.Label },
	} {
		if counts(int(t.Kind), field) {
			take()
		}
	}
	for _, kid := range t.Kids {
		other.Kids = append(other.Kids, junk(random, kid))
	}
	return other
}

// P3.6, its end.
func TestTermsThatAreSameAreMeasuredAlike(t *testing.T) {
	random := rand.New(rand.NewSource(5))
	for range 2000 {
		a := some(random, 1+random.Intn(6))
		b := junk(random, a)
		if !terms.Same(a, b) || !terms.Same(b, a) || !reflect.DeepEqual(terms.Bare(a), terms.Bare(b)) {
			t.Fatalf("%+v and %+v are not the same", a, b)
		}
		if !slices.Equal(terms.Free(a), terms.Free(b)) || terms.Nodes(a) != terms.Nodes(b) || terms.Depth(a) != terms.Depth(b) {
			t.Fatalf("%+v and %+v are not measured alike", a, b)
		}
		c := some(random, 1+random.Intn(3))
		if same := reflect.DeepEqual(terms.Bare(a), terms.Bare(c)); terms.Same(a, c) != same || terms.Same(c, a) != same {
			t.Fatalf("Same of %+v and %+v is not %v", a, c, same)
		}
	}
}

// R3: the lists that are handed in stay as they are, with the room behind their ends.
func TestArgumentsStay(t *testing.T) {
	given := func() ([]api.Term, []api.Type) {
		parts := []api.Type{integer(), fun(boolean(), api.Type{}), typeOf(77)}
		kids := []api.Term{lam("x", typeOf(api.Pair, parts[:2]...), two(name("y"), name("x"))), is(num(3), integer()), of(99)}
		kids[0].At, kids[1].Label = 5, 6
		return kids, parts
	}
	kids, parts := given()
	a := of(api.App, kids[:2]...)
	terms.Check(a)
	terms.Nodes(a)
	terms.Depth(a)
	terms.Same(a, a)
	terms.Free(a)
	terms.Bare(a)
	wantKids, wantParts := given()
	if !reflect.DeepEqual(kids, wantKids) || !reflect.DeepEqual(parts, wantParts) {
		t.Errorf("now %+v, %+v", kids, parts)
	}
}

// overwrite writes into all lists of t, and counts the terms and types in them.
func overwrite(t api.Term) int {
	n := overwriteType(t.Type) + overwriteType(t.To)
	for i := range t.Kids {
		n += 1 + overwrite(t.Kids[i])
		t.Kids[i] = api.Term{Kind: 99}
	}
	return n
}

func overwriteType(a api.Type) int {
	n := 0
	for i := range a.Kids {
		n += 1 + overwriteType(a.Kids[i])
		a.Kids[i] = api.Type{Kind: 99}
	}
	return n
}

// R3: what is written into an answer is in no other one, in no other list of it, and not in what was handed in.
func TestAnswersShareNothing(t *testing.T) {
	a := fun(integer(), typeOf(api.Sum, boolean(), api.Type{}))
	shared := lam("x", a, rec("f", "x", a, a, cast(1, a, a, name("y"))))
	x := two(shared, two(shared, shared))
	first, second := terms.Bare(x), terms.Bare(x)
	if n := overwrite(first); n != 2+2+3*(3+5*4) { // the pairs' kids; then of each shared one three kids and five types
		t.Errorf("Bare shares lists within itself: %d", n)
	}
	if !terms.Same(second, x) || !types.Same(a, fun(integer(), typeOf(api.Sum, boolean(), api.Type{}))) {
		t.Error("Bare shares lists with another answer, or with what was handed in")
	}
	free := terms.Free(x)
	free[0] = "changed"
	if again := terms.Free(x); !slices.Equal(again, []string{"y"}) {
		t.Errorf("Free shares its list: %q", again)
	}
}

// R2: how many goroutines work changes no answer.
func TestManyAtATime(t *testing.T) {
	wide, x := full(40), lam("x", fun(integer(), integer()), app(name("x"), name("y")))
	done := make(chan error)
	for range 8 {
		go func() {
			var all error
			for range 200 {
				if terms.Check(wide) != api.ErrTooBig || !terms.Same(terms.Bare(x), x) || !slices.Equal(terms.Free(x), []string{"y"}) {
					all = errors.Join(all, errors.New("another answer"))
				}
			}
			done <- all
		}()
	}
	for range 8 {
		if err := <-done; err != nil {
			t.Error(err)
		}
	}
}
