package show_test

import (
	"math"
	"math/rand"
	"strings"
	"testing"

	"lychgate/api"
	"lychgate/parse"
	"lychgate/show"
	"lychgate/terms"
)

func one[T any](random *rand.Rand, of ...T) T { return of[random.Intn(len(of))] }

func someType(random *rand.Rand, depth int) api.Type {
	kind := int8(random.Intn(7))
	if depth == 1 || kind > api.Sum {
		kind %= 3
	}
	if kind <= api.Bool {
		return typeOf(kind)
	}
	return typeOf(kind, someType(random, depth-1), someType(random, depth-1))
}

// some is a term of any sort but a Cast, up to a depth.
func some(random *rand.Rand, sorts []api.Term, depth int) api.Term {
	t := one(random, sorts...)
	for depth == 1 && len(t.Kids) > 0 {
		t = one(random, sorts...)
	}
	if t.Kind != api.Op {
		t.Name = one(random, "x", "f", "_", "Let", "in1")
	}
	t.Arg = one(random, "x", "y", "fst_")
	if t.Kind == api.Num {
		t.Num = one[int64](random, 0, 1, -1, 10, math.MaxInt64, -math.MaxInt64)
	}
	t.Type, t.To = someType(random, 4), someType(random, 4)
	n := len(t.Kids)
	t.Kids = nil
	for range n {
		t.Kids = append(t.Kids, some(random, sorts, depth-1))
	}
	return t
}

// manyTerms are always the same ones, all of them terms that have a text.
func manyTerms(seed int64) []api.Term {
	random, sorts := rand.New(rand.NewSource(seed)), heads()
	all := append(within(sorts, 2), long(api.MaxText), around(199, name("x")), pairs(4096, num(-1)))
	for n := range 5000 {
		all = append(all, some(random, sorts, 1+n%8))
	}
	return all
}

// thereAndBack wants the text of x to be read as x, and gives it.
func thereAndBack(t *testing.T, x api.Term) string {
	t.Helper()
	text, e := show.Text(x)
	u, err := parse.Term(text)
	if e != api.OK || err != nil || !terms.Same(x, u) {
		t.Fatalf("%v; %.300q: %v", e, text, err)
	}
	return text
}

// P5.2; and P5.1: words with one blank between each two.
func TestThereAndBack(t *testing.T) {
	sorts, most := map[string]int{}, 0
	for _, x := range manyTerms(1) {
		text := thereAndBack(t, x)
		if want := (typist{}).text(x); text != want {
			t.Fatalf("%.300q, by the table %.300q", text, want)
		}
		if l := strings.Fields(text); text != strings.Join(l, " ") {
			t.Fatalf("%q: not one blank between each two", text)
		}
		u, _ := parse.Term(text)
		if again := thereAndBack(t, u); again != text {
			t.Fatalf("%q, and again %q", text, again)
		}
		sorts[sortOf(x)]++
		most = max(most, terms.Nodes(x))
	}
	if len(sorts) != 23 || most < 8000 {
		t.Errorf("too few of a sort: %v, %d", sorts, most)
	}
}

// P5.2: what has more brackets and blanks than it needs, and remarks, is one text behind all.
func TestTextsThatAreRead(t *testing.T) {
	y := typist{random: rand.New(rand.NewSource(2))}
	for _, x := range manyTerms(3) {
		text := y.text(x)
		if len(text) > api.MaxText {
			continue
		}
		u, err := parse.Term(text)
		if err != nil || !terms.Same(x, u) {
			t.Fatalf("%.300q: %v", text, err) // the test's own writing is wrong
		}
		if first, second := thereAndBack(t, x), thereAndBack(t, u); first != second {
			t.Fatalf("%.300q: %.300q, and of what it is read as %.300q", text, first, second)
		}
	}
	for text, want := range map[string]string{
		"-0": "0", "((x))": "x", "(f(1))((2))": "f ( 1 ) ( 2 )", "fst(x)": "fst x", "fst (x)(y)": "fst x ( y )",
		"x:((int)->(?->?))": "x : int -> ? -> ?", "(((1+2)+3)+(4*5))": "1 + 2 + 3 + 4 * 5", "1<(2+3) # which?": "1 < 2 + 3",
		`(if x then (\y:?.y) else (let z:?=(x) in (z)))`: `if x then \ y : ? . y else let z : ? = x in z`,
		"case(x)of y.(y)|z.(z:?)":                        "case x of y . y | z . z : ?",
	} {
		u, err := parse.Term(text)
		if got := thereAndBack(t, u); err != nil || got != want {
			t.Errorf("%q: %v, %q, want %q", text, err, got, want)
		}
	}
}

// A text that is read may be one of a term whose own text is too long.
func TestTextsWhoseTermsAreTooLong(t *testing.T) {
	x := long(api.MaxText + 1)
	text := strings.ReplaceAll(typist{}.text(x), " ", "")
	u, err := parse.Term(text)
	if err != nil || !terms.Same(x, u) {
		t.Fatal(err)
	}
	refuses(t, "one too long", u, api.ErrLong)
}

// P5.1 and P5.2, of terms that come out of any texts.
func FuzzText(f *testing.F) {
	for _, x := range within(heads(), 2) {
		f.Add(typist{}.text(x))
	}
	f.Add(`(\x:int.x+1)((f)((2)):(?)) # -`)
	f.Fuzz(func(t *testing.T, text string) {
		u, err := parse.Term(text)
		if err != nil {
			return
		}
		s, e := show.Text(u)
		if e == api.ErrLong && len(typist{}.text(u)) > api.MaxText {
			return
		}
		if e != api.OK || s != (typist{}).text(u) || thereAndBack(t, u) != s {
			t.Fatalf("%q: %q, %v", text, s, e)
		}
	})
}
