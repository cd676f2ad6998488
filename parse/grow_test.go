package parse_test

import (
	"math/rand"
	"slices"
	"strconv"
	"strings"

	"lychgate/api"
	"lychgate/scan"
)

// A tree is a rule of the grammar with what stands for its parts, or a word and its place in a row of words.
type tree struct {
	rule  rule
	kids  []tree
	word  string
	place int
}

// A grower makes trees, always the same ones.
type grower struct {
	random *rand.Rand
	rules  map[string][]rule
	left   int // how many more parts a tree may have before it ends as soon as it can
}

func newGrower(seed int64) *grower {
	g := &grower{random: rand.New(rand.NewSource(seed)), rules: map[string][]rule{}}
	for _, r := range grammar() {
		g.rules[r.of] = append(g.rules[r.of], r)
	}
	return g
}

func (g *grower) one(of ...string) string { return of[g.random.Intn(len(of))] }

// tree is one for a part of a rule.
func (g *grower) tree(part string) tree {
	from := g.rules[part]
	g.left--
	switch {
	case part == "NAME":
		return tree{word: g.one("x", "y", "f", "_1", "def", "Let")}
	case part == "NUMBER":
		return tree{word: g.one("0", "1", "2", "42", "9223372036854775807")}
	case len(from) == 0:
		return tree{word: part}
	case g.left < 0 && (part == "atom" || part == "tatom"):
		from = from[:3]
	case g.left < 0:
		from = from[len(from)-1:]
	}
	made := tree{rule: from[g.random.Intn(len(from))]}
	for _, p := range made.rule.parts {
		made.kids = append(made.kids, g.tree(p))
	}
	return made
}

// grown are so many trees of terms with their words.
func (g *grower) grown(many int, use func(x tree, row []string)) {
	for n := range many {
		g.left = 10 * (1 + n%40)
		x := g.tree("term")
		use(x, x.row(nil))
	}
}

// row is what stands ahead, and behind it the words of x, whose places x notes.
func (x *tree) row(ahead []string) []string {
	if len(x.kids) == 0 {
		x.place = len(ahead)
		return append(ahead, x.word)
	}
	for n := range x.kids {
		ahead = x.kids[n].row(ahead)
	}
	return ahead
}

// term is what x makes, where the words of its row stand at those places of a text.
func (x tree) term(at []int) api.Term {
	head := x.kids[x.rule.head]
	if x.rule.kind == pass {
		return head.term(at)
	}
	t := api.Term{Kind: x.rule.kind, At: at[head.place]}
	var names []string
	var ofType []api.Type
	for n, kid := range x.kids {
		switch part := x.rule.parts[n]; {
		case part == "NAME":
			names = append(names, kid.word)
		case part == "NUMBER":
			t.Num, _ = strconv.ParseInt(kid.word, 10, 64)
		case part == "type":
			ofType = append(ofType, kid.typed())
		case len(kid.kids) > 0:
			t.Kids = append(t.Kids, kid.term(at))
		}
	}
	switch {
	case t.Kind == api.Op:
		t.Name = head.word
	case head.word == "-":
		t.Num = -t.Num
	}
	t.Name, t.Arg = t.Name+strings.Join(names[:min(len(names), 1)], ""), strings.Join(names[min(len(names), 1):], "")
	if len(ofType) > 0 {
		t.Type = ofType[0]
	}
	if len(ofType) > 1 {
		t.To = ofType[1]
	}
	return t
}

// typed is the type that x makes.
func (x tree) typed() api.Type {
	if x.rule.kind == pass {
		return x.kids[x.rule.head].typed()
	}
	a := api.Type{Kind: x.rule.kind}
	for n, kid := range x.kids {
		if n != x.rule.head {
			a.Kids = append(a.Kids, kid.typed())
		}
	}
	return a
}

// laid is a text of the words of row, and where each stands: with nothing between two that may stand so, or with blanks, and remarks.
func (g *grower) laid(row []string) (string, []int) {
	var b strings.Builder
	var at []int
	for n, word := range row {
		between := g.one("", "", " ", "  ", "\t", "\r\n", "# 1 ) in\n", " #\n\n")
		if between == "" && n > 0 && wordy(row[n-1]) && wordy(word) {
			between = " "
		}
		b.WriteString(between)
		at = append(at, b.Len())
		b.WriteString(word)
	}
	b.WriteString(g.one("", " ", "\n", "# the end"))
	return b.String(), at
}

// wordy tells whether a word is one that would go on with letters or digits.
func wordy(word string) bool {
	return strings.ContainsAny(word[:1], "_0123456789") || scan.Key(word) || scan.Name(word)
}

// spoilt is l with one word changed, left out, told twice, or cut off with all behind it. Each word stands at another place.
func (g *grower) spoilt(l, some []api.Word) []api.Word {
	n, m := g.random.Intn(len(l)), g.random.Intn(len(l))
	l = slices.Clone(l)
	switch g.random.Intn(7) {
	case 0:
		l = slices.Delete(l, n, n+1)
	case 1:
		l = slices.Insert(l, n, l[n])
	case 2:
		l = l[:n]
	case 3:
		l[n].Kind = int8(g.random.Intn(7) - 1)
		if l[n].Kind == api.WordNumber { // the text of a number does not count, but shows in its place
			l[n].Text = strconv.FormatInt(l[n].Num, 10)
		}
	case 4:
		l[n], l[m] = l[m], l[n]
	default:
		l[n] = some[g.random.Intn(len(some))]
	}
	for n := range l {
		l[n].At = 100 * n
	}
	return l
}
