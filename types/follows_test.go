package types_test

import (
	"errors"
	"math/rand"
	"slices"
	"strings"
	"testing"

	"lychgate/api"
	"lychgate/scan"
	"lychgate/types"
)

// The chapter's grammar, written down a second time: first how far the words go, then where they part.

// extent tells how many words from the first on make a type, or at which one no type goes on.
func extent(l []string) (size int, ok bool) {
	open, wanted := 0, true
	for n, w := range l {
		switch {
		case wanted && w == "(":
			open++
		case wanted && (w == "?" || w == "int" || w == "bool"):
			wanted = false
		case !wanted && (w == "->" || w == "+" || w == "*"):
			wanted = true
		case !wanted && open > 0 && w == ")":
			open--
		default:
			return n, !wanted && open == 0
		}
	}
	return len(l), !wanted && open == 0
}

// parted is the type of words that make one.
func parted(l []string) api.Type {
	if len(l) == 1 {
		return map[string]api.Type{"?": unknown(), "int": integer(), "bool": boolean()}[l[0]]
	}
	if n := outside(l, "->", true); n > 0 {
		return fun(parted(l[:n]), parted(l[n+1:]))
	}
	if n := outside(l, "+", false); n > 0 {
		return sum(parted(l[:n]), parted(l[n+1:]))
	}
	if n := outside(l, "*", false); n > 0 {
		return pair(parted(l[:n]), parted(l[n+1:]))
	}
	return parted(l[1 : len(l)-1])
}

// outside is the place of the first or the last such sign that no bracket is around; 0, if there is none.
func outside(l []string, sign string, first bool) int {
	place, open := 0, 0
	for n, w := range l {
		switch {
		case w == "(":
			open++
		case w == ")":
			open--
		case w == sign && open == 0 && (place == 0 || !first):
			place = n
		}
	}
	return place
}

// wordRows are all rows of up to six of these words.
func wordRows() [][]string {
	some := []string{"?", "int", "->", "+", "*", "(", ")", "x"}
	all := [][]string{nil}
	for from, length := 0, 0; length < 6; length++ {
		to := len(all)
		for _, head := range all[from:to] {
			for _, w := range some {
				all = append(all, append(slices.Clone(head), w))
			}
		}
		from = to
	}
	return all
}

// longRows are rows of types' words, some with a word that is changed, always the same ones.
func longRows() [][]string {
	random := rand.New(rand.NewSource(2))
	some := strings.Fields("? int bool -> + * ( ) ) x")
	var all [][]string
	for range 3000 {
		text, _ := types.Text(someType(random, 6))
		l := strings.Fields(strings.NewReplacer("(", " ( ", ")", " ) ").Replace(text))
		if random.Intn(3) > 0 {
			l[random.Intn(len(l))] = some[random.Intn(len(some))]
		}
		all = append(all, l)
	}
	return all
}

func someType(random *rand.Rand, depth int) api.Type {
	kind := int8(random.Intn(9))
	if depth == 1 || kind > api.Sum {
		kind %= 3
	}
	if kind <= api.Bool {
		return of(kind)
	}
	return of(kind, someType(random, depth-1), someType(random, depth-1))
}

// P2.5.
func TestReadAgainstASecondReading(t *testing.T) {
	for _, row := range slices.Concat(wordRows(), longRows()) {
		l := words(t, strings.Join(row, " "))
		againstASecondReading(t, l)
		againstASecondReading(t, l[:len(l)-1])
		if t.Failed() {
			return // one is enough: the next ones would tell the same
		}
	}
}

func againstASecondReading(t *testing.T, l []api.Word) {
	t.Helper()
	var row []string
	for _, w := range l {
		row = append(row, w.Text)
	}
	size, ok := extent(row)
	switch {
	case ok:
		a := parted(row[:size])
		if e := types.Check(a); e != api.OK {
			refuses(t, l, 0, api.Fault{Code: e, At: l[0].At})
			return
		}
		takes(t, l, 0, a, size)
	case size < len(l):
		refuses(t, l, 0, syntax(l[size].At, l[size].Text))
	case size > 0:
		refuses(t, l, 0, syntax(l[size-1].At+len(l[size-1].Text), ""))
	default:
		refuses(t, l, 0, syntax(0, ""))
	}
}

func FuzzRead(f *testing.F) {
	for _, text := range []string{"", "?", "int -> (bool + ? * int) x", "(int", "int * -> int", row(201, "?", "->"), row(300, "(?", ")+")} {
		f.Add(text)
	}
	f.Fuzz(func(t *testing.T, text string) {
		if l, err := scan.All(text); err == nil {
			againstASecondReading(t, l)
		}
	})
}

// typesOf are all types up to a depth.
func typesOf(depth int) []api.Type {
	all := []api.Type{unknown(), integer(), boolean()}
	if depth == 1 {
		return all
	}
	parts := typesOf(depth - 1)
	for kind := int8(api.Fun); kind <= api.Sum; kind++ {
		for _, l := range parts {
			for _, r := range parts {
				all = append(all, of(kind, l, r))
			}
		}
	}
	return all
}

func manyTypes() []api.Type {
	all := append(typesOf(3), down(api.Fun, 200), down(api.Pair, 200), full(api.Sum, 13), full(api.Fun, 13))
	random := rand.New(rand.NewSource(3))
	for range 3000 {
		all = append(all, someType(random, 2+random.Intn(7)))
	}
	return all
}

// P2.6, its first half; and P2.4: where blanks stand.
func TestThereAndBack(t *testing.T) {
	for _, a := range manyTypes() {
		text, e := types.Text(a)
		if e != api.OK {
			t.Fatal(a, e)
		}
		l := words(t, text)
		takes(t, l, 0, a, len(l)-1)
		var b strings.Builder
		for _, w := range l {
			if strings.Contains("->*+", w.Text) && w.Text != "" {
				w.Text = " " + w.Text + " "
			}
			b.WriteString(w.Text)
		}
		if text != b.String() {
			t.Errorf("%q, but with the chapter's blanks %q", text, b.String())
		}
		if t.Failed() {
			return
		}
	}
}

// P2.6, its second half.
func TestNoBracketsCanBeTakenAway(t *testing.T) {
	for _, a := range typesOf(3) {
		text, _ := types.Text(a)
		l := words(t, text)
		for n := range l {
			less, ok := withoutBrackets(l, n)
			if !ok {
				continue
			}
			if b, next, err := types.Read(less, 0); err == nil && next == len(less)-1 && types.Same(a, b) {
				t.Fatalf("%q needs no brackets at word %d", text, n)
			}
		}
	}
}

// withoutBrackets are the words without the bracket at n and the one that shuts it; false, if none is opened there.
func withoutBrackets(l []api.Word, n int) ([]api.Word, bool) {
	if l[n].Text != "(" {
		return nil, false
	}
	open := 0
	for m := n; ; m++ {
		switch l[m].Text {
		case "(":
			open++
		case ")":
			open--
		}
		if open == 0 {
			return slices.Concat(l[:n], l[n+1:m], l[m+1:]), true
		}
	}
}

// P2.7.
func TestSameIsAsAWholeTold(t *testing.T) {
	all := typesOf(2)
	for n, a := range all {
		for m, b := range all {
			if types.Same(a, b) != (n == m) || types.Same(b, a) != (n == m) {
				t.Errorf("Same of %v and %v is not %v", a, b, n == m)
			}
		}
	}
	random := rand.New(rand.NewSource(4))
	for range 3000 {
		a, b := anything(random, 4), anything(random, 4)
		if types.Same(a, a) != (types.Check(a) == api.OK) || types.Same(a, b) != types.Same(b, a) {
			t.Errorf("Same of %v and %v", a, b)
		}
	}
}

// P2.7.
func TestGroundOfAGround(t *testing.T) {
	for _, a := range manyTypes() {
		g, ok := types.Ground(a)
		if ok != (a.Kind != api.Unknown) {
			t.Errorf("Ground(%v): %v", a, ok)
		}
		if !ok {
			continue
		}
		again, ok := types.Ground(g)
		if !ok || !types.Same(again, g) || g.Kind != a.Kind {
			t.Errorf("Ground(%v) = %v, and of that %v, %v", a, g, again, ok)
		}
	}
}

// anything is a type or none: kids of all numbers under kinds of all numbers.
func anything(random *rand.Rand, depth int) api.Type {
	a := of(int8(random.Intn(6)))
	if random.Intn(20) == 0 {
		a.Kind = int8(random.Intn(256) - 128)
	}
	kids := 0
	if a.Kind >= api.Fun {
		kids = 2
	}
	if random.Intn(20) == 0 {
		kids = random.Intn(5)
	}
	for range kids {
		if depth > 1 {
			a.Kids = append(a.Kids, anything(random, depth-1))
		} else {
			a.Kids = append(a.Kids, integer())
		}
	}
	return a
}

// P2.7, and P2.2, told once more.
func TestNodesAndDepthOfParts(t *testing.T) {
	all := manyTypes()
	random := rand.New(rand.NewSource(5))
	for range 3000 {
		all = append(all, anything(random, 1+random.Intn(9)))
	}
	for _, x := range edges() {
		all = append(all, x.a)
	}
	for _, a := range all {
		nodes, depth := 1, 0
		for _, kid := range a.Kids {
			n, d := types.Nodes(kid), types.Depth(kid)
			nodes, depth = nodes+n, max(depth, d)
			if own := types.Nodes(a); own <= n && own <= api.MaxNodes {
				t.Errorf("Nodes: %d, of a part %d", own, n)
			}
			if own := types.Depth(a); own <= d && own <= api.MaxDepth {
				t.Errorf("Depth: %d, of a part %d", own, d)
			}
		}
		depth++
		if nodes > api.MaxNodes {
			nodes, depth = api.MaxNodes+1, api.MaxDepth+1
		}
		if n, d := types.Nodes(a), types.Depth(a); n != nodes || d != min(depth, api.MaxDepth+1) {
			t.Errorf("Nodes %d, want %d; Depth %d, want %d", n, nodes, d, depth)
		}
	}
}

// R2: how many goroutines work changes no answer.
func TestManyAtATime(t *testing.T) {
	wide, l := full(api.Pair, 40), words(t, "(int -> ?) * (bool + x)")
	done := make(chan error)
	for range 8 {
		go func() {
			var all error
			for range 200 {
				_, _, err := types.Read(l, 0)
				if types.Check(wide) != api.ErrTooBig || err == nil || err.Error() != "21: error 40: x" {
					all = errors.Join(all, errors.New("another answer"), err)
				}
			}
			done <- all
		}()
	}
	for range 8 {
		if err := <-done; err != nil {
			t.Error(err)
		}
	}
}
