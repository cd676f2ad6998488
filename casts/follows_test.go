package casts_test

import (
	"testing"

	"lychgate/api"
	"lychgate/below"
	"lychgate/casts"
	"lychgate/check"
	"lychgate/insert"
	"lychgate/kernel"
	"lychgate/parse"
	"lychgate/samples"
	"lychgate/show"
	"lychgate/terms"
	"lychgate/types"
)

// P14.4 and P14.5.
func TestWhatFollows(t *testing.T) {
	g, told := newGrower(11), map[[2]bool]int{}
	for n := range 3000 {
		x := g.Term(1 + n%6)
		for _, u := range []api.Term{x, g.Mixed(x), samples.Annotated(x, g.Spoilt)} {
			if terms.Check(u) != api.OK {
				t.Fatal("the test's own term:", shortOf(u))
			}
			changedAbout(t, u, told)
			withoutCasts(t, u)
			if t.Failed() {
				t.FailNow() // one is enough: the next ones would tell the same
			}
		}
	}
	for _, answer := range [][2]bool{{true, true}, {true, false}, {false, true}, {false, false}} {
		if told[answer] < 700 {
			t.Errorf("too few of a sort: %v", told)
		}
	}
}

// changedAbout wants Safe of a label and its other side to tell the same, changed about, and both to be true of a label without a cast.
func changedAbout(t *testing.T, x api.Term, told map[[2]bool]int) {
	t.Helper()
	has := map[int]bool{}
	for _, c := range casts.All(x) {
		has[c.Label], has[-c.Label] = true, true
	}
	for _, label := range []int{1, 2, 3, 4, 1 << 31} {
		pos, neg := casts.Safe(x, label)
		safe(t, x, -label, neg, pos)
		if !has[label] && !(pos && neg) {
			t.Errorf("%s has no cast of %d: %v, %v", shortOf(x), label, pos, neg)
		}
		told[[2]bool{pos, neg}]++
	}
}

// withoutCasts wants Erase to tell the same of what it told, and of that to be left no cast, and no higher type; and Nodes to tell of each cast that is gone, and of its types.
func withoutCasts(t *testing.T, x api.Term) {
	t.Helper()
	y, all := casts.Erase(x), casts.All(x)
	erases(t, y, y)
	lists(t, y)
	if casts.Height(y) > casts.Height(x) {
		t.Errorf("%s: height %d; without casts %d", shortOf(x), casts.Height(x), casts.Height(y))
	}
	if count := samples.Count(x, api.Cast); len(all) != count {
		t.Errorf("%s: %d casts of %d", shortOf(x), len(all), count)
	}
	gone := 0
	for _, c := range all {
		gone += 1 + types.Nodes(c.From) + types.Nodes(c.To)
	}
	if before, after := terms.Nodes(x), terms.Nodes(y); before-after != gone {
		t.Errorf("%s: %d nodes, %d without casts; but casts have %d", shortOf(x), before, after, gone)
	}
}

// A tally is how often runs ended in blame, positively and negatively, of labels that Safe tells safe for the other side, and in all.
type tally struct{ positive, negative, otherSafe, runs int }

// blameIsSafe wants a run of x, which kernel takes, not to end in blame of what Safe tells is safe.
func blameIsSafe(t *testing.T, x api.Term, tally *tally) ending {
	t.Helper()
	if _, e := kernel.Type(x); e != api.OK {
		t.Fatal("the test's own term:", shortOf(x), e)
	}
	_, how := ended(x, 300)
	tally.runs++
	if how.code != api.ErrBlame {
		return how
	}
	b := blame(how.label, false)
	pos, neg := casts.Safe(x, b.label)
	if b.neg && neg || !b.neg && pos {
		t.Fatalf("%s: blame of %v; but it is safe: %v, %v", shortOf(x), b, pos, neg)
	}
	if b.neg {
		tally.negative++
	} else {
		tally.positive++
	}
	if pos || neg {
		tally.otherSafe++
	}
	return how
}

func (n tally) enough(t *testing.T, positive, negative, otherSafe int) {
	t.Helper()
	if n.positive < positive || n.negative < negative || n.otherSafe < otherSafe {
		t.Errorf("too few of a sort: %+v", n)
	}
}

// relabelled is x, its casts having the labels that tell of each.
func relabelled(x api.Term, label func(c api.Term) int) api.Term {
	if x.Kind == api.Cast {
		x.Label = label(x)
	}
	return samples.Over(x, func(kid api.Term) api.Term { return relabelled(kid, label) })
}

// P14.6: of made-up cast terms, as they are, with a label of its own for each cast, and with few labels.
func TestBlameIsSafe(t *testing.T) {
	g, n := newGrower(12), tally{}
	for i := range 30000 {
		x, next := g.Term(2+i%6), 0
		blameIsSafe(t, x, &n)
		blameIsSafe(t, relabelled(x, func(api.Term) int { next++; return next * samples.One(g, 1, -1) }), &n)
		blameIsSafe(t, relabelled(x, func(api.Term) int { return samples.One(g, 1, 2, -1, -2) }), &n)
	}
	n.enough(t, 5000, 200, 2000)
}

// P14.6: where the casts that go up positively all have one label, Safe tells so, and no run blames it positively; likewise negatively, and with its other side.
func TestLabelsThatAreSafe(t *testing.T) {
	g, n := newGrower(13), tally{}
	for i := range 30000 {
		sorted := relabelled(g.Term(2+i%6), func(c api.Term) int {
			switch {
			case below.Pos(c.Type, c.To):
				return 1
			case below.Neg(c.Type, c.To):
				return -1
			}
			return 2
		})
		if pos, _ := casts.Safe(sorted, 1); !pos {
			t.Fatalf("%s: 1 is not safe positively", shortOf(sorted))
		}
		if how := blameIsSafe(t, sorted, &n); how.label == 1 {
			t.Fatalf("%s: blame of 1", shortOf(sorted))
		}
		other := relabelled(sorted, func(c api.Term) int { return -c.Label })
		if _, neg := casts.Safe(other, 1); !neg {
			t.Fatalf("%s: 1 is not safe negatively", shortOf(other))
		}
		if how := blameIsSafe(t, other, &n); how.label == -1 {
			t.Fatalf("%s: blame of -1", shortOf(other))
		}
	}
	n.enough(t, 1000, 1000, 1000)
}

// P14.6: of what comes out of texts, casts being put in.
func TestBlameOfTexts(t *testing.T) {
	opened, spoilt := tally{}, tally{}
	g := newGrower(14)
	g.Casts, g.Ascribes = false, true
	for i := range 20000 {
		x := g.Term(2 + i%6)
		if i%4 == 0 { // nothing blames anybody in what would be known, and is less known
			blameOfText(t, samples.Annotated(x, g.Opened), &opened)
			continue
		}
		blameOfText(t, samples.Annotated(g.Mixed(x), func(a api.Type) api.Type { return samples.One(g, unknown(), unknown(), g.Spoilt(a)) }), &spoilt)
	}
	if opened.runs < 2000 || opened.positive+opened.negative > 0 || spoilt.runs < 2000 {
		t.Errorf("%+v, %+v", opened, spoilt)
	}
	spoilt.enough(t, 50, 0, 50) // TestWhomTextsBlame has more of negative blame
}

// blameOfText is blameIsSafe of what the text of x becomes, if it has one that check takes.
func blameOfText(t *testing.T, x api.Term, tally *tally) {
	t.Helper()
	text, e := show.Text(x)
	if e != api.OK {
		return
	}
	if _, err := check.Text(text); err == nil {
		blameIsSafe(t, inserted(t, text), tally)
	}
}

// P14.6: whom texts blame, positively above 0, negatively below.
func TestWhomTextsBlame(t *testing.T) {
	n := tally{}
	for text, want := range map[string]int{
		`(\x:?.x+1)(true)`: 7, `(\x:int.x)(true:?)`: 16, `(\f:int->int.f(1))(\x:?.true:?)`: 20, `(\f:?->int.f(true))(\x:int.x)`: -21, `fst (1:?)`: 7, `(1:?)(2)`: 3,
		`(\f:?.f(true))((\x:int.x))`: -17, `if (1:?) then 2 else 3`: 6, `case (1:?) of x.1 | y.2`: 8, `(rec f(x:?):int.x)(true)`: 17, `let f:?->?=\x:int.x in f(true)`: -12,
		`let g:?->int=\f:int->int.f(1) in g(\x:int.true:?)`: -14, `(\g:(?->int)->int.g(\x:?.x))(\f:int->int.f(1))`: 0, `(\p:?*int.snd p)([1, true:?])`: 18, `1/0+(true:?)`: 0,
	} {
		if how := blameIsSafe(t, inserted(t, text), &n); how.label != want {
			t.Errorf("%s: %v; want %d", text, how, want)
		}
	}
}

// inserted is what the term of a text becomes.
func inserted(t *testing.T, text string) api.Term {
	t.Helper()
	x, err := parse.Term(text)
	if err != nil {
		t.Fatal(text, err)
	}
	u, _, err := insert.Term(x)
	if err != nil {
		t.Fatal(text, err)
	}
	return u
}
