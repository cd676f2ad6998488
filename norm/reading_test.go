package norm_test

import (
	"math/rand"
	"regexp"
	"slices"
	"testing"

	"lychgate/api"
	"lychgate/coerce"
	"lychgate/norm"
	"lychgate/samples"
	"lychgate/scan"
	"lychgate/types"
)

// The rules, written down a second time.

// The grammar of normal forms, over texts: what a text is made of is put for it, from the inside on.

func spelt(c api.Co) string {
	text, _ := types.Text(c.Type)
	switch c.Kind {
	case api.CoId:
		return "id<" + text + ">"
	case api.CoFail:
		return "fail"
	case api.CoIn:
		return "in"
	case api.CoOut:
		return "out"
	}
	name := map[int8]string{api.CoFun: "over", api.CoPair: "over", api.CoSum: "over", api.CoSeq: "seq"}[c.Kind]
	return name + "(" + spelt(c.Kids[0]) + "," + spelt(c.Kids[1]) + ")"
}

// The rows of the grammar: what stands for what.
var rows = []struct {
	text *regexp.Regexp
	is   string
}{
	{regexp.MustCompile(`id<(int|bool)>`), "g"},
	{regexp.MustCompile(`id<\?>`), "s"},
	{regexp.MustCompile(`fail`), "i"},
	{regexp.MustCompile(`over\([gis],[gis]\)`), "g"},
	{regexp.MustCompile(`seq\(g,in\)`), "i"},
	{regexp.MustCompile(`seq\(out,[gi]\)`), "s"},
}

// ruled tells whether c, which is a coercion, is in normal form.
func ruled(c api.Co) bool {
	text := spelt(c)
	for was := ""; was != text; {
		was = text
		for _, row := range rows {
			text = row.text.ReplaceAllString(text, row.is)
		}
	}
	return slices.Contains([]string{"g", "i", "s"}, text)
}

// A step is a coercion that is neither a CoId nor a CoSeq; what is in it are rows of steps, of which nothing to do is the empty one.
type step struct {
	api.Co
	first, second []step
}

// laid is c as a row.
func laid(c api.Co) []step {
	switch c.Kind {
	case api.CoId:
		return nil
	case api.CoSeq:
		return append(laid(c.Kids[0]), laid(c.Kids[1])...)
	case api.CoFun, api.CoPair, api.CoSum:
		return []step{{Co: api.Co{Kind: c.Kind}, first: laid(c.Kids[0]), second: laid(c.Kids[1])}}
	}
	return []step{{Co: c}}
}

// meeting is what two steps that lie beside one another become; false, if they stay.
func meeting(x, y step) ([]step, bool) {
	switch {
	case x.Kind == api.CoFail:
		return []step{x}, true
	case x.Kind == api.CoIn && y.Kind == api.CoOut && types.Same(x.Type, y.Type):
		return nil, true
	case x.Kind == api.CoIn && y.Kind == api.CoOut:
		return []step{{Co: api.Co{Kind: api.CoFail, Label: y.Label, Neg: y.Neg}}}, true
	case x.Kind >= api.CoFun && y.Kind == api.CoFail:
		return []step{y}, true
	case x.Kind == api.CoFun && y.Kind == api.CoFun:
		return []step{{Co: x.Co, first: slices.Concat(y.first, x.first), second: slices.Concat(x.second, y.second)}}, true
	case x.Kind >= api.CoFun && y.Kind == x.Kind:
		return []step{{Co: x.Co, first: slices.Concat(x.first, y.first), second: slices.Concat(x.second, y.second)}}, true
	}
	return nil, false
}

// met is a row in which all meet that can, in an order that the dice tell.
func met(row []step, dice samples.Dice) []step {
	for {
		var places []int
		for n := 1; n < len(row); n++ {
			if _, ok := meeting(row[n-1], row[n]); ok {
				places = append(places, n)
			}
		}
		if len(places) == 0 {
			return row
		}
		n := samples.One(dice, places...)
		both, _ := meeting(row[n-1], row[n])
		row = slices.Concat(row[:n-1], both, row[n+1:])
	}
}

// built is a row that goes from there to there as a coercion in normal form.
func built(row []step, from, to api.Type, dice samples.Dice) api.Co {
	row = met(row, dice)
	last := len(row) - 1
	switch {
	case last < 0 && len(from.Kids) == 0:
		return id(from)
	case last >= 0 && row[0].Kind == api.CoOut:
		return seq(samples.CoOut(row[0].Type, sided(row[0].Co)), built(row[1:], row[0].Type, to, dice))
	case last >= 0 && row[last].Kind == api.CoFail:
		return fail(from, to, sided(row[last].Co))
	case last >= 0 && row[last].Kind == api.CoIn:
		return seq(built(row[:last], from, row[last].Type, dice), in(row[last].Type))
	}
	var first, second []step
	if last >= 0 {
		first, second = row[0].first, row[0].second
	}
	kind, a, b := from.Kind-api.Fun+api.CoFun, from.Kids[0], to.Kids[0]
	if kind == api.CoFun {
		a, b = b, a
	}
	return node(kind, built(first, a, b, dice), built(second, from.Kids[1], to.Kids[1], dice))
}

func sided(c api.Co) int {
	if c.Neg {
		return -c.Label
	}
	return c.Label
}

// A tally is how often there was each.
type tally map[api.Errno]int

func (n tally) enough(t *testing.T, many int, codes ...api.Errno) {
	t.Helper()
	for _, code := range codes {
		if n[code] < many {
			t.Errorf("too few of a sort: %v", n)
		}
	}
}

func newGrower(seed int64) *samples.Grower {
	return &samples.Grower{Dice: rand.New(rand.NewSource(seed)), Casts: true}
}

// asRuled wants of c what the rules tell, written down a second time. It leaves the test at the first fault: the next ones would tell the same.
func asRuled(t *testing.T, c api.Co, dice samples.Dice) api.Errno {
	t.Helper()
	from, to, code := coerce.Check(c)
	var want api.Co
	if norm.Is(c) != (code == api.OK && ruled(c)) {
		t.Errorf("Is(%s): %v", shortOf(c), norm.Is(c))
	}
	if code == api.OK {
		want = built(laid(c), from, to, dice)
		_, _, code = coerce.Check(want)
	}
	if code == api.OK {
		norms(t, c, want)
	} else {
		normsNone(t, c, code)
	}
	if t.Failed() {
		t.FailNow()
	}
	return code
}

// asMerged wants of a and b what the rules tell, likewise.
func asMerged(t *testing.T, a, b api.Co, dice samples.Dice) api.Errno {
	t.Helper()
	from, middle, e := coerce.Check(a)
	again, to, f := coerce.Check(b)
	code := api.ErrCoerce
	var want api.Co
	if e == api.OK && f == api.OK && ruled(a) && ruled(b) && types.Same(middle, again) {
		want = built(laid(seq(a, b)), from, to, dice)
		_, _, code = coerce.Check(want)
	}
	if code == api.OK {
		merges(t, a, b, want)
	} else {
		mergesNone(t, a, b, code)
	}
	if t.Failed() {
		t.FailNow()
	}
	return code
}

// P16.1 and P16.2: made-up coercions, as they are, and with something changed.
func TestManyCoercions(t *testing.T) {
	g, n, forms := newGrower(1), tally{}, 0
	for i := range 8000 {
		c := g.Coercion(g.SomeType(3), g.SomeType(3), i%6)
		n[asRuled(t, c, g)]++
		n[asRuled(t, g.CoSpoilt(c), g)]++
		form := g.Form(g.SomeType(3), g.SomeType(3), i%5)
		norms(t, form, form)
		n[asRuled(t, form, g)]++
		spoilt := g.CoSpoilt(form)
		n[asRuled(t, spoilt, g)]++
		if norm.Is(spoilt) {
			forms++
		}
	}
	n.enough(t, 3000, api.OK, api.ErrCoerce)
	if forms < 1000 || forms > 7000 {
		t.Errorf("%d are in normal form though they are spoilt", forms)
	}
}

// P16.3: made-up ones in normal form, with such as they meet, and with others.
func TestManyPairs(t *testing.T) {
	g, n := newGrower(2), tally{}
	for i := range 8000 {
		from, middle, to := g.SomeType(3), g.SomeType(3), g.SomeType(3)
		if i%2 == 0 {
			from, to = g.Agreeing(middle), g.Agreeing(middle)
		}
		a, b := g.Form(from, middle, i%5), g.Form(middle, to, i/5%5)
		n[asMerged(t, a, b, g)]++
		n[asMerged(t, a, g.CoSpoilt(b), g)]++
		n[asMerged(t, g.CoSpoilt(a), b, g)]++
		n[asMerged(t, b, a, g)]++
	}
	n.enough(t, 6000, api.OK, api.ErrCoerce)
}

// P16.3: all of the smallest ones with all, and within others.
func TestSmallPairs(t *testing.T) {
	g, n, all := newGrower(3), tally{}, samples.SmallForms()
	for _, a := range all {
		for _, b := range all {
			code := asMerged(t, a, b, g)
			n[code]++
			other := samples.One(g, all...)
			for _, kind := range []int8{api.CoFun, api.CoPair, api.CoSum} {
				_, to, _ := coerce.Check(node(kind, a, other))
				asMerged(t, node(kind, a, other), g.Form(to, g.Agreeing(to), 1), g)
				asMerged(t, node(kind, b, other), node(kind, a, other), g)
			}
		}
	}
	n.enough(t, 400, api.OK, api.ErrCoerce)
}

// typeOf is the type of a text; false, if it has none.
func typeOf(text string) (api.Type, bool) {
	words, err := scan.All(text)
	if err != nil {
		return api.Type{}, false
	}
	a, next, err := types.Read(words, 0)
	return a, err == nil && words[next].Kind == api.WordEnd
}

// P16.1 to P16.9: what casts between three types make.
func FuzzText(f *testing.F) {
	f.Add("int -> ?", "?", "? -> bool", 2, -3, int64(1))
	f.Add("(int -> ?) * (? + bool)", "?", "? * ?", -3, 1<<31, int64(2))
	f.Add("?", "(? -> int -> ?) + int", "?", 1<<31, 5, int64(3))
	f.Fuzz(func(t *testing.T, first, second, third string, p, q int, seed int64) {
		a, ok := typeOf(first)
		b, okToo := typeOf(second)
		c, okThree := typeOf(third)
		if !ok || !okToo || !okThree {
			return
		}
		x, e := norm.Cast(a, b, p)
		y, f := norm.Cast(b, c, q)
		if e != api.OK || f != api.OK {
			return
		}
		g := newGrower(seed)
		asRuled(t, seq(x, y), g)
		asMerged(t, x, y, g)
		follows(t, x, y, g.Form(c, g.Agreeing(c), 2))
	})
}
