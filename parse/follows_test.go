package parse_test

import (
	"errors"
	"reflect"
	"slices"
	"strconv"
	"strings"
	"testing"

	"lychgate/api"
	"lychgate/parse"
	"lychgate/scan"
	"lychgate/terms"
)

// headWord is the text at a term's At.
func headWord(u api.Term) string {
	switch u.Kind {
	case api.Var, api.Op:
		return u.Name
	case api.Num:
		if u.Num < 0 {
			return "-"
		}
		return strconv.FormatInt(u.Num, 10)
	}
	return map[int8]string{
		api.Yes: "true", api.No: "false", api.Lam: `\`, api.Rec: "rec", api.App: "(", api.Let: "let", api.If: "if", api.Two: "[",
		api.Fst: "fst", api.Snd: "snd", api.Inl: "inl", api.Inr: "inr", api.Case: "case", api.Is: ":",
	}[u.Kind]
}

// parts are all terms in u, itself too.
func parts(u api.Term) []api.Term {
	all := []api.Term{u}
	for _, kid := range u.Kids {
		all = append(all, parts(kid)...)
	}
	return all
}

// P4.3.
func placed(t *testing.T, u api.Term, l []api.Word) {
	t.Helper()
	if e := terms.Check(u); e != api.OK {
		t.Errorf("%s: %v", short(l), e)
	}
	heads := map[int]string{}
	for _, w := range l {
		heads[w.At] = w.Text
	}
	for _, p := range parts(u) {
		head, told := heads[p.At]
		if !told || head != headWord(p) && (head != "-" || p.Kind != api.Num || p.Num != 0) { // a "-" and a 0 are 0
			t.Errorf("%s: %s at %d, where %q stands, or has stood for another one", short(l), kindName(p.Kind), p.At, head)
		}
		delete(heads, p.At)
	}
}

// asRead wants of Words what a chart tells that has read all of l that begins a term.
func asRead(t *testing.T, c *chart, l []api.Word) {
	t.Helper()
	next, fault := c.verdict(l)
	if fault != nil {
		refusesWords(t, l, 0, *fault)
		return
	}
	u, n, err := parse.Words(l, 0)
	if err != nil || n != next {
		t.Errorf("Words(%s) = %d, %v; want %d", short(l), n, err, next)
		return
	}
	placed(t, u, l[:n])
}

// againstTheGrammar holds Words to the chart, the words standing each at another place.
func againstTheGrammar(t *testing.T, l []api.Word) {
	t.Helper()
	c := newChart()
	for _, w := range l {
		if !c.read(w) {
			break
		}
	}
	asRead(t, c, l)
}

// through holds Words to the chart for each word behind each row of up to so many that begins a term.
func through(t *testing.T, some []api.Word, most int) (tried int) {
	t.Helper()
	c := newChart()
	var behind func(l []api.Word)
	behind = func(l []api.Word) {
		for _, w := range some {
			w.At = 10 * len(l)
			row, goesOn := append(slices.Clone(l), w), c.read(w)
			asRead(t, c, row)
			tried++
			if t.Failed() {
				return // one is enough: the next ones would tell the same
			}
			if goesOn && len(l) < most {
				behind(row)
			}
			if goesOn {
				c.forget()
			}
		}
	}
	behind(nil)
	return tried
}

const allWords = `x 1 let in if then else rec case of fst snd inl inr true false int bool -> \ . : = ( ) [ ] { } , | + - * / < > ? ;`

// P4.5, and P4.3: this test and those behind it.
func TestShortRows(t *testing.T) {
	tried := through(t, words(t, allWords), 3)
	for _, some := range []string{"x 1 ( ) + - < :", "x - 1 * fst ( ) = ?", "x : ? int -> + * ( )", `\ x : ? . ( ) +`, "case x of . |", "if x then else = (", "let x : ? = in"} {
		tried += through(t, words(t, some), 6)
	}
	if tried < 150000 {
		t.Errorf("only %d rows", tried)
	}
}

// P4.2, P4.3 and P4.5: what is grown by the grammar is read as it was grown, with all its places.
func TestGrownTermsAreReadAsTheyWere(t *testing.T) {
	g, kinds, most := newGrower(1), map[int8]int{}, 0
	g.grown(10000, func(x tree, row []string) {
		text, at := g.laid(row)
		want := x.term(at)
		if e := terms.Check(want); e != api.OK {
			refuses(t, text, api.Fault{Code: e})
			return
		}
		u, err := parse.Term(text)
		if err != nil || !reflect.DeepEqual(u, want) {
			t.Fatalf("Term(%q) = %s, %v; want %s", text, shown(u), err, shown(want))
		}
		placed(t, u, words(t, text))
		for _, p := range parts(u) {
			kinds[p.Kind]++
			if head := headWord(p); p.Num != 0 && !strings.HasPrefix(text[p.At:], head) {
				t.Fatalf("%q: %q is not at %d", text, head, p.At)
			}
		}
		most = max(most, len(row))
	})
	if len(kinds) != 17 || most < 100 {
		t.Errorf("too few of a sort: %v, %d", kinds, most)
	}
}

// P4.4.
func TestBlanksAndRemarksMakeNoDifference(t *testing.T) {
	g := newGrower(2)
	g.grown(5000, func(x tree, row []string) {
		first, _ := g.laid(row)
		second, _ := g.laid(row)
		a, errA := parse.Term(first)
		b, errB := parse.Term(second)
		if errA != nil || errB != nil || !terms.Same(a, b) || !reflect.DeepEqual(terms.Bare(a), terms.Bare(b)) {
			t.Fatalf("%q: %s, %v; %q: %s, %v", first, shown(a), errA, second, shown(b), errB)
		}
	})
	a, _ := parse.Term("# f(2)\n\tf # f\n(\r1# )\n)")
	b, _ := parse.Term("f(1)")
	c, _ := parse.Term("(f)((1))")
	if !terms.Same(a, b) || a.At != 14 || a.Kids[0].At != 8 || a.Kids[1].At != 16 || !terms.Same(b, c) || b.At != 1 || c.At != 3 {
		t.Errorf("%s; %s; %s", shown(a), shown(b), shown(c))
	}
}

// P4.5: the fault is at the first word with which the words up to there begin no term.
func TestSpoiltTerms(t *testing.T) {
	g, some, refused, taken := newGrower(3), words(t, allWords), 0, 0
	g.grown(12000, func(x tree, row []string) {
		text, _ := g.laid(row)
		l := g.spoilt(words(t, text), some)
		againstTheGrammar(t, l)
		if _, _, err := parse.Words(l, 0); err != nil {
			refused++
		} else {
			taken++
		}
		if t.Failed() {
			t.FailNow()
		}
	})
	if refused < 3000 || taken < 1000 {
		t.Errorf("too few of a sort: %d, %d", refused, taken)
	}
}

// P4.2 told a second time, by P4.1.
func termAgainstWords(t *testing.T, text string) {
	t.Helper()
	u, err := parse.Term(text)
	l, fault := scan.All(text)
	next := 0
	var want api.Term
	if fault == nil {
		want, next, fault = parse.Words(l, 0)
	}
	if fault == nil && next < len(l)-1 {
		want, fault = api.Term{}, &api.Fault{Code: api.ErrSyntax, At: l[next].At, Word: l[next].Text}
	}
	var f, g *api.Fault
	if errors.As(err, &f) != errors.As(fault, &g) || f != nil && *f != *g || !reflect.DeepEqual(u, want) {
		t.Errorf("Term(%q) = %s, %v; want %s, %v", text, shown(u), err, shown(want), fault)
	}
}

func FuzzTerm(f *testing.F) {
	for _, text := range []string{"", "x y", `\x:int.x+1`, "f(1)(2) : ?", "-1 - -2 * 3", "1 < 2 < 3", "[1, 2", "inl {int + ?} fst [1, 2]", "case z of x.x|y.y", "rec f(x:?):?.f(x)", "let x:?=1 in x", "if true then 1 else false", "1a", "x)"} {
		f.Add(text)
	}
	f.Fuzz(func(t *testing.T, text string) {
		termAgainstWords(t, text)
		if l, err := scan.All(text); err == nil && len(l) <= 200 { // so few words make no term that is too great
			againstTheGrammar(t, l)
		}
	})
}
