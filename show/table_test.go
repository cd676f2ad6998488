package show_test

import (
	"math/rand"
	"strconv"
	"strings"

	"lychgate/api"
	"lychgate/types"
)

// A form is a line of the chapter's table, written down a second time: how strong a term is, and its words, among them kids at strengths.
type form struct {
	strength int
	words    string
}

// formOf is the form of t; false, if it has none.
func formOf(t api.Term) (form, bool) {
	f, ok := map[string]form{
		"Var":  {5, "NAME"},
		"Yes":  {5, "true"},
		"No":   {5, "false"},
		"Num":  {5, "DIGITS"},
		"-Num": {4, "- DIGITS"},
		"Lam":  {-1, `\ NAME : TYPE . KID0@-1`},
		"Rec":  {-1, "rec NAME ( ARG : TYPE ) : TO . KID0@-1"},
		"App":  {5, "KID0@5 ( KID1@-1 )"},
		"Let":  {-1, "let NAME : TYPE = KID0@-1 in KID1@-1"},
		"If":   {-1, "if KID0@-1 then KID1@-1 else KID2@-1"},
		"Two":  {5, "[ KID0@-1 , KID1@-1 ]"},
		"Fst":  {4, "fst KID0@4"},
		"Snd":  {4, "snd KID0@4"},
		"Inl":  {4, "inl { TYPE } KID0@4"},
		"Inr":  {4, "inr { TYPE } KID0@4"},
		"Case": {-1, "case KID0@-1 of NAME . KID1@-1 | ARG . KID2@-1"},
		"Op*":  {3, "KID0@3 NAME KID1@4"},
		"Op/":  {3, "KID0@3 NAME KID1@4"},
		"Op+":  {2, "KID0@2 NAME KID1@3"},
		"Op-":  {2, "KID0@2 NAME KID1@3"},
		"Op<":  {1, "KID0@2 NAME KID1@2"},
		"Op=":  {1, "KID0@2 NAME KID1@2"},
		"Is":   {0, "KID0@0 : TYPE"},
	}[sortOf(t)]
	return f, ok
}

// sortOf is the name of what t is: its kind, or, where kinds do not tell all, more.
func sortOf(t api.Term) string {
	kind := strings.Fields("Var Num Yes No Lam Rec App Let If Two Fst Snd Inl Inr Case Op Is Cast")[t.Kind]
	switch {
	case t.Kind == api.Op:
		return kind + t.Name
	case t.Kind == api.Num && t.Num < 0:
		return "-" + kind
	}
	return kind
}

// A typist writes terms by their forms. One with a random source puts brackets and blanks where none are needed.
type typist struct{ random *rand.Rand }

// text is what the chapter's table makes of t; of one whose form is none it is no term's.
func (y typist) text(t api.Term) string { return y.at(t, -1) }

// at is t where it stands at a strength.
func (y typist) at(t api.Term, strength int) string {
	f, _ := formOf(t)
	var words []string
	for _, word := range strings.Fields(f.words) {
		words = append(words, y.word(t, word))
	}
	if f.strength < strength || y.random != nil && y.random.Intn(4) == 0 {
		words = append(append([]string{"("}, words...), ")")
	}
	return strings.Join(words, y.between())
}

// word is what stands for a word of a form.
func (y typist) word(t api.Term, word string) string {
	switch word {
	case "NAME":
		return t.Name
	case "ARG":
		return t.Arg
	case "DIGITS":
		return strings.TrimPrefix(strconv.FormatInt(t.Num, 10), "-")
	case "TYPE":
		return typeText(t.Type)
	case "TO":
		return typeText(t.To)
	}
	if place, ok := strings.CutPrefix(word, "KID"); ok {
		kid, strength, _ := strings.Cut(place, "@")
		n, _ := strconv.Atoi(kid)
		least, _ := strconv.Atoi(strength)
		return y.at(t.Kids[n], least)
	}
	return word
}

func (y typist) between() string {
	if y.random == nil {
		return " "
	}
	return []string{" ", "  ", "\t", "\r\n", " # ) 1\n"}[y.random.Intn(5)]
}

func typeText(a api.Type) string {
	text, _ := types.Text(a)
	return text
}
