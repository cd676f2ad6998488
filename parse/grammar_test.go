package parse_test

import (
	"slices"
	"strings"

	"lychgate/api"
	"lychgate/scan"
)

// The chapter's grammar, written down a second time, and a reader that goes by it alone: it holds all ways at once in which the words so far may begin a term.

// A rule is a line of the chapter's grammar, what it makes, and the place of its head word among its parts.
type rule struct {
	of    string
	parts []string
	kind  int8 // pass, of a rule that makes nothing new
	head  int
}

const pass = -1

// grammar is that of the chapter and of chapter 2, without { } and [ ], and a type's kinds in the place of a term's.
func grammar() []rule {
	line := func(kind int8, head int, text string) rule {
		of, parts, _ := strings.Cut(text, " ::= ")
		return rule{of, strings.Fields(parts), kind, head}
	}
	return []rule{
		line(api.Lam, 0, `term ::= \ NAME : type . term`),
		line(api.Let, 0, `term ::= let NAME : type = term in term`),
		line(api.If, 0, `term ::= if term then term else term`),
		line(api.Rec, 0, `term ::= rec NAME ( NAME : type ) : type . term`),
		line(api.Case, 0, `term ::= case term of NAME . term | NAME . term`),
		line(pass, 0, `term ::= is`),
		line(api.Is, 1, `is ::= is : type`),
		line(pass, 0, `is ::= cmp`),
		line(api.Op, 1, `cmp ::= sum < sum`),
		line(api.Op, 1, `cmp ::= sum = sum`),
		line(pass, 0, `cmp ::= sum`),
		line(api.Op, 1, `sum ::= sum + mul`),
		line(api.Op, 1, `sum ::= sum - mul`),
		line(pass, 0, `sum ::= mul`),
		line(api.Op, 1, `mul ::= mul * un`),
		line(api.Op, 1, `mul ::= mul / un`),
		line(pass, 0, `mul ::= un`),
		line(api.Fst, 0, `un ::= fst un`),
		line(api.Snd, 0, `un ::= snd un`),
		line(api.Inl, 0, `un ::= inl { type } un`),
		line(api.Inr, 0, `un ::= inr { type } un`),
		line(api.Num, 0, `un ::= - NUMBER`),
		line(pass, 0, `un ::= app`),
		line(api.App, 1, `app ::= app ( term )`),
		line(pass, 0, `app ::= atom`),
		line(api.Num, 0, `atom ::= NUMBER`),
		line(api.Var, 0, `atom ::= NAME`),
		line(api.Yes, 0, `atom ::= true`),
		line(api.No, 0, `atom ::= false`),
		line(pass, 1, `atom ::= ( term )`),
		line(api.Two, 0, `atom ::= [ term , term ]`),
		line(api.Fun, 1, `type ::= tsum -> type`),
		line(pass, 0, `type ::= tsum`),
		line(api.Sum, 1, `tsum ::= tsum + tprod`),
		line(pass, 0, `tsum ::= tprod`),
		line(api.Pair, 1, `tprod ::= tprod * tatom`),
		line(pass, 0, `tprod ::= tatom`),
		line(api.Unknown, 0, `tatom ::= ?`),
		line(api.Int, 0, `tatom ::= int`),
		line(api.Bool, 0, `tatom ::= bool`),
		line(pass, 1, `tatom ::= ( type )`),
	}
}

// means tells whether w can stand where the grammar has a word.
func means(w api.Word, part string) bool {
	switch {
	case part == "NAME":
		return w.Kind == api.WordName && scan.Name(w.Text)
	case part == "NUMBER":
		return w.Kind == api.WordNumber && w.Num >= 0
	case scan.Key(part):
		return w.Kind == api.WordKey && w.Text == part
	}
	return w.Kind == api.WordSign && w.Text == part
}

// A spot is a rule that is gone through up to one of its parts, and where it was begun.
type spot struct{ rule, done, from int }

// A chart holds for each place between words all spots that the words ahead of it lead to: none, if no term begins with them.
type chart struct {
	rules  []rule
	places [][]spot
}

func newChart() *chart {
	c := &chart{rules: grammar()}
	var first []spot
	for n, r := range c.rules {
		if r.of == "term" {
			first = append(first, spot{n, 0, 0})
		}
	}
	c.places = [][]spot{c.grown(first, 0)}
	return c
}

// next is the part that a spot is ahead of.
func (c *chart) next(s spot) string {
	if r := c.rules[s.rule]; s.done < len(r.parts) {
		return r.parts[s.done]
	}
	return ""
}

// grown is l with all spots that follow from it at that place.
func (c *chart) grown(l []spot, place int) []spot {
	add := func(s spot) {
		if !slices.Contains(l, s) {
			l = append(l, s)
		}
	}
	for n := 0; n < len(l); n++ {
		s := l[n]
		if part := c.next(s); part != "" {
			for n, r := range c.rules {
				if r.of == part {
					add(spot{n, 0, place})
				}
			}
			continue
		}
		for _, waiting := range c.places[s.from] { // no rule is empty: s.from is a place ahead
			if c.next(waiting) == c.rules[s.rule].of {
				add(spot{waiting.rule, waiting.done + 1, waiting.from})
			}
		}
	}
	return l
}

// read goes past a word, if a term may still begin so, and tells whether it does.
func (c *chart) read(w api.Word) bool {
	var l []spot
	for _, s := range c.places[len(c.places)-1] {
		if part := c.next(s); part != "" && means(w, part) {
			l = append(l, spot{s.rule, s.done + 1, s.from})
		}
	}
	if len(l) == 0 {
		return false
	}
	c.places = append(c.places, c.grown(l, len(c.places)))
	return true
}

// forget goes back ahead of the last word.
func (c *chart) forget() { c.places = c.places[:len(c.places)-1] }

// whole tells whether the words up to here are a term.
func (c *chart) whole() bool {
	return slices.ContainsFunc(c.places[len(c.places)-1], func(s spot) bool {
		return s.from == 0 && c.next(s) == "" && c.rules[s.rule].of == "term"
	})
}

// verdict is what Words must tell of l, of which the chart has read all that begins a term: a place, or a fault.
func (c *chart) verdict(l []api.Word) (int, *api.Fault) {
	n := len(c.places) - 1
	switch {
	case c.whole():
		return n, nil
	case n < len(l):
		return 0, &api.Fault{Code: api.ErrSyntax, At: l[n].At, Word: l[n].Text}
	case n > 0:
		return 0, &api.Fault{Code: api.ErrSyntax, At: l[n-1].At + len(l[n-1].Text)}
	}
	return 0, &api.Fault{Code: api.ErrSyntax}
}
