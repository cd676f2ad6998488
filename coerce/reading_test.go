package coerce_test

import (
	"fmt"
	"math/rand"
	"slices"
	"strings"
	"testing"

	"lychgate/agree"
	"lychgate/api"
	"lychgate/coerce"
	"lychgate/samples"
	"lychgate/scan"
	"lychgate/types"
)

// The rules, written down a second time: over texts of types in which each part is in brackets.

// spelt is such a text; none, if a is none.
func spelt(a api.Type) string {
	var parts []string
	for _, kid := range a.Kids {
		parts = append(parts, spelt(kid))
	}
	atoms, signs := []string{"?", "int", "bool"}, []string{"->", "*", "+"}
	switch {
	case slices.Contains(parts, ""):
	case a.Kind >= api.Unknown && a.Kind <= api.Bool && len(parts) == 0:
		return atoms[a.Kind]
	case a.Kind >= api.Fun && a.Kind <= api.Sum && len(parts) == 2:
		return "(" + parts[0] + signs[a.Kind-api.Fun] + parts[1] + ")"
	}
	return ""
}

func grounds() []string { return []string{"int", "bool", "(?->?)", "(?*?)", "(?+?)"} }

// ways is from where to where c goes; none, if a rule does not hold in it.
func ways(c api.Co) (from, to string) {
	var kids []string
	for _, kid := range c.Kids {
		a, b := ways(kid)
		kids = append(kids, a, b)
	}
	a, b, labelled := spelt(c.Type), spelt(c.To), 1 <= c.Label && c.Label <= 1<<31
	switch {
	case slices.Contains(kids, ""):
	case c.Kind == api.CoId && len(kids) == 0:
		return a, a
	case c.Kind == api.CoFail && len(kids) == 0 && a != "?" && a != "" && b != "" && labelled:
		return a, b
	case c.Kind == api.CoIn && len(kids) == 0 && slices.Contains(grounds(), a):
		return a, "?"
	case c.Kind == api.CoOut && len(kids) == 0 && slices.Contains(grounds(), a) && labelled:
		return "?", a
	case c.Kind == api.CoFun && len(kids) == 4:
		return "(" + kids[1] + "->" + kids[2] + ")", "(" + kids[0] + "->" + kids[3] + ")"
	case c.Kind == api.CoPair && len(kids) == 4:
		return "(" + kids[0] + "*" + kids[2] + ")", "(" + kids[1] + "*" + kids[3] + ")"
	case c.Kind == api.CoSum && len(kids) == 4:
		return "(" + kids[0] + "+" + kids[2] + ")", "(" + kids[1] + "+" + kids[3] + ")"
	case c.Kind == api.CoSeq && len(kids) == 4 && kids[1] == kids[2]:
		return kids[0], kids[3]
	}
	return "", ""
}

// depths is how deep each node of c lies, those of its types that count too.
func depths(c api.Co, at int) []int {
	all := []int{at}
	if slices.Contains([]int8{api.CoId, api.CoFail, api.CoIn, api.CoOut}, c.Kind) {
		all = append(all, typeDepths(c.Type, at+1)...)
	}
	if c.Kind == api.CoFail {
		all = append(all, typeDepths(c.To, at+1)...)
	}
	for _, kid := range c.Kids {
		all = append(all, depths(kid, at+1)...)
	}
	return all
}

func typeDepths(a api.Type, at int) []int {
	all := []int{at}
	for _, kid := range a.Kids {
		all = append(all, typeDepths(kid, at+1)...)
	}
	return all
}

// ruledError is what keeps c from being a coercion.
func ruledError(c api.Co) api.Errno {
	l := depths(c, 1)
	from, _ := ways(c)
	switch {
	case len(l) > api.MaxNodes:
		return api.ErrTooBig
	case slices.Max(l) > api.MaxDepth:
		return api.ErrTooDeep
	case from == "":
		return api.ErrCoerce
	}
	return api.OK
}

// written is the text of c.
func written(c api.Co) string {
	var kids, typed []string
	for _, kid := range c.Kids {
		kids = append(kids, written(kid))
	}
	for _, a := range []api.Type{c.Type, c.To} {
		text, _ := types.Text(a)
		typed = append(typed, text)
	}
	side := map[bool]string{true: "-"}[c.Neg]
	switch c.Kind {
	case api.CoId:
		return fmt.Sprintf("id { %s }", typed[0])
	case api.CoFail:
		return fmt.Sprintf("fail { %s } { %s } %s%d", typed[0], typed[1], side, c.Label)
	case api.CoIn:
		return fmt.Sprintf("{ %s } !", typed[0])
	case api.CoOut:
		return fmt.Sprintf("{ %s } ? %s%d", typed[0], side, c.Label)
	case api.CoSeq:
		return kids[0] + " ; " + kids[1]
	}
	return "( " + kids[0] + " " + []string{"->", "*", "+"}[c.Kind-api.CoFun] + " " + kids[1] + " )"
}

// counting tells all that counts of c, which is one.
func counting(c api.Co) string {
	if c.Kind < api.CoFun {
		return written(c)
	}
	return fmt.Sprint(c.Kind, "(", counting(c.Kids[0]), ",", counting(c.Kids[1]), ")")
}

// counted is Size and Height of what has that text: how many words there are but semicolons and what belongs to others, and how many brackets there are around the highest.
func counted(text string) (size, height int) {
	open := 0
	var a api.Type // the last one in braces
	words := strings.Fields(text)
	for n := 0; n < len(words); n++ {
		piece := 0
		switch words[n] {
		case "{":
			end := n + slices.Index(words[n:], "}")
			a, n = typed(strings.Join(words[n+1:end], " ")), end
		case "(":
			size, open = size+1, open+1
		case ")":
			open--
		case "id", "fail":
			piece = 1
		case "!", "?":
			piece = types.Depth(a)
		}
		if piece > 0 {
			size, height = size+1, max(height, open+piece)
		}
	}
	return size, height
}

// asRuled wants of c what the rules tell, written down a second time. It leaves the test at the first fault: the next ones would tell the same.
func asRuled(t *testing.T, c api.Co) api.Errno {
	t.Helper()
	defer func() {
		t.Helper()
		if t.Failed() {
			t.FailNow()
		}
	}()
	code := ruledError(c)
	if code != api.OK {
		refuses(t, c, code)
		return code
	}
	from, to, e := coerce.Check(c)
	if a, b := ways(c); e != api.OK || a != spelt(from) || b != spelt(to) {
		t.Errorf("%s: from %s to %s, %v; want %s, %s", shortOf(c), short(from), short(to), e, a, b)
	}
	for _, a := range []api.Type{from, to} { // what P15.2 asks last can't come about
		if l := depths(c, 1); types.Nodes(a) > len(l) || types.Depth(a) > slices.Max(l) {
			t.Errorf("%s, from %s to %s", shortOf(c), short(from), short(to))
		}
	}
	text := written(c)
	size, height := counted(text)
	measures(t, c, size, height)
	if len(text) > api.MaxText {
		text = ""
	}
	reads(t, c, text)
	if !coerce.Same(c, c) {
		t.Error("not the same:", shortOf(c))
	}
	return code
}

// A tally is how often there was each.
type tally map[api.Errno]int

func (n tally) enough(t *testing.T, many int, codes ...api.Errno) {
	t.Helper()
	for _, code := range codes {
		if n[code] < many {
			t.Errorf("too few of a sort: %v", n)
		}
	}
}

func newGrower(seed int64) *samples.Grower {
	return &samples.Grower{Dice: rand.New(rand.NewSource(seed)), Casts: true}
}

// P15.2 to P15.5: made-up coercions, as they are, and with something changed.
func TestManyCoercions(t *testing.T) {
	g, n, kinds := newGrower(1), tally{}, map[int8]int{}
	for i := range 20000 {
		from, to := g.SomeType(3), g.SomeType(3)
		c := g.Coercion(from, to, i%6)
		n[asRuled(t, c)]++
		goes(t, c, from, to)
		kinds[c.Kind]++
		spoilt := g.CoSpoilt(c)
		n[asRuled(t, spoilt)]++
		both := ruledError(c) == api.OK && ruledError(spoilt) == api.OK
		if same := both && counting(c) == counting(spoilt); coerce.Same(c, spoilt) != same || coerce.Same(spoilt, c) != same {
			t.Fatalf("%s, %s: the same: %v", shortOf(c), shortOf(spoilt), !same)
		}
	}
	n.enough(t, 5000, api.OK, api.ErrCoerce)
	for kind := int8(api.CoId); kind <= api.CoSeq; kind++ {
		if kinds[kind] < 50 {
			t.Errorf("too few of a kind: %v", kinds)
		}
	}
}

// made is what Of tells of two types that agree.
func made(from, to api.Type, p int) api.Co {
	a, b := spelt(from), spelt(to)
	base := func(a string) bool { return a == "?" || a == "int" || a == "bool" }
	top := func(a api.Type) api.Type { return samples.Spread(a, func(api.Type) api.Type { return unknown() }) }
	switch {
	case base(a) && a == b:
		return id(from)
	case b == "?":
		return seq(made(from, top(from), p), in(top(from)))
	case a == "?":
		return seq(out(top(to), p), made(top(to), to, p))
	case from.Kind == api.Fun:
		return node(api.CoFun, made(to.Kids[0], from.Kids[0], -p), made(from.Kids[1], to.Kids[1], p))
	}
	return node(map[int8]int8{api.Pair: api.CoPair, api.Sum: api.CoSum}[from.Kind], made(from.Kids[0], to.Kids[0], p), made(from.Kids[1], to.Kids[1], p))
}

// asMade wants Of to tell what the rules tell, written down a second time.
func asMade(t *testing.T, from, to api.Type, label int) api.Errno {
	t.Helper()
	code := api.OK
	for _, a := range []api.Type{to, from} {
		if e := types.Check(a); e != api.OK {
			code = e
		}
	}
	if code == api.OK && (!agree.Agree(from, to) || label == 0 || label > 1<<31 || label < -1<<31) {
		code = api.ErrCoerce
	}
	var want api.Co
	if code == api.OK {
		want = made(from, to, label)
		code = ruledError(want)
	}
	if code != api.OK {
		makesNone(t, from, to, label, code)
	} else {
		makes(t, from, to, label, want)
	}
	if t.Failed() {
		t.FailNow()
	}
	return code
}

// P15.1: all types two deep, and made-up ones.
func TestManyTypes(t *testing.T) {
	g, n, label := newGrower(2), tally{}, 1
	small := []api.Type{unknown(), integer(), boolean()}
	for _, kind := range []int8{api.Fun, api.Pair, api.Sum} {
		for _, row := range samples.Rows([]api.Type{unknown(), integer(), boolean()}, 2) {
			small = append(small, of(kind, row...))
		}
	}
	for _, a := range small {
		for _, b := range small {
			label = -label
			n[asMade(t, a, b, label)]++
		}
	}
	for i := range 20000 {
		a := g.SomeType(2 + i%6)
		b := g.Agreeing(a)
		n[asMade(t, a, b, g.Label())]++
		n[asMade(t, a, g.Spoilt(b), g.Label())]++
	}
	n.enough(t, 1000, api.OK, api.ErrCoerce)
}

// P15.1 to P15.5.
func FuzzText(f *testing.F) {
	f.Add("int -> ?", "? -> bool", 2)
	f.Add("(int -> ?) * (? + bool)", "?", -3)
	f.Add("?", "(? -> int -> ?) + int", 1<<31)
	f.Add("int", "bool", 0)
	f.Fuzz(func(t *testing.T, from, to string, label int) {
		a, ok := typeOf(from)
		b, okToo := typeOf(to)
		if !ok || !okToo {
			return
		}
		if asMade(t, a, b, label) == api.OK {
			c, _ := coerce.Of(a, b, label)
			asRuled(t, c)
			follows(t, a, b, label)
		}
	})
}

// typeOf is the type of a text; false, if it has none.
func typeOf(text string) (api.Type, bool) {
	words, err := scan.All(text)
	if err != nil {
		return api.Type{}, false
	}
	a, next, err := types.Read(words, 0)
	return a, err == nil && words[next].Kind == api.WordEnd
}
