// Package scan is layer 1: a text as words, and where each of them stands. See shared/doc/01-scan.md.
package scan

import (
	"strconv"
	"strings"

	"lychgate/api"
)

// The signs of one byte; the only other one is the arrow.
const (
	signs = `\.:=()[]{},|+-*/<>?;`
	arrow = "->"
)

// All gives the words of text, and behind them one of the kind WordEnd.
func All(text string) ([]api.Word, error) {
	if len(text) > api.MaxText {
		return nil, &api.Fault{Code: api.ErrLong}
	}
	var words []api.Word
	past := 0
	for at, r := range text {
		switch {
		case at < past || blank(r):
			continue
		case r == '#':
			past = at + remark(text[at:])
			continue
		}
		w, e := first(text[at:])
		if e != api.OK {
			return nil, &api.Fault{Code: e, At: at, Word: w.Text}
		}
		past = at + len(w.Text)
		w.At = at
		words = append(words, w)
	}
	return append(words, api.Word{Kind: api.WordEnd, At: len(text)}), nil
}

// Key tells whether word is one of the keys.
func Key(word string) bool {
	switch word {
	case "let", "in", "if", "then", "else", "rec", "case", "of",
		"fst", "snd", "inl", "inr", "true", "false", "int", "bool":
		return true
	}
	return false
}

// Name tells whether word, from its first byte to its last, is one name.
func Name(word string) bool {
	if word == "" {
		return false
	}
	w, e := first(word)
	return e == api.OK && w.Kind == api.WordName && w.Text == word
}

// first reads the word that rest, which is not empty, begins with. Beside an error it gives the text that the fault tells.
func first(rest string) (api.Word, api.Errno) {
	size := 1
	switch head := rune(rest[0]); {
	case letter(head):
		return name(rest)
	case digit(head):
		return number(rest)
	case strings.HasPrefix(rest, arrow):
		size = len(arrow)
		fallthrough
	case strings.ContainsRune(signs, head):
		return word(api.WordSign, rest[:size]), api.OK
	}
	return word(api.WordEnd, rest[:size]), api.ErrWord
}

func name(rest string) (api.Word, api.Errno) {
	w := word(api.WordName, rest[:span(rest, letterOrDigit)])
	switch {
	case len(w.Text) > api.MaxName:
		return w, api.ErrLong
	case Key(w.Text):
		w.Kind = api.WordKey
	}
	return w, api.OK
}

func number(rest string) (api.Word, api.Errno) {
	size := span(rest, digit)
	digits, behind := rest[:size], rest[size:]
	w := word(api.WordNumber, digits)
	n, err := strconv.ParseInt(digits, 10, 64)
	switch {
	case err != nil: // digits alone fail only by being too great
		return w, api.ErrLong
	case size > 1 && digits[0] == '0', span(behind, letter) > 0:
		return w, api.ErrWord
	}
	w.Num = n
	return w, api.OK
}

// word copies text, so that a word that is kept does not hold the whole text that it came from.
func word(kind int8, text string) api.Word {
	return api.Word{Kind: kind, Text: strings.Clone(text)}
}

// remark counts the bytes of the remark that rest begins with.
func remark(rest string) int {
	return span(rest, func(r rune) bool { return r != '\n' })
}

// span counts the bytes of rest ahead of the first rune that does not belong.
func span(rest string, belongs func(rune) bool) int {
	for i, r := range rest {
		if !belongs(r) {
			return i
		}
	}
	return len(rest)
}

func blank(r rune) bool { return r == ' ' || r == '\t' || r == '\n' || r == '\r' }

func digit(r rune) bool { return '0' <= r && r <= '9' }

func letter(r rune) bool {
	return 'A' <= r && r <= 'Z' || 'a' <= r && r <= 'z' || r == '_'
}

func letterOrDigit(r rune) bool { return letter(r) || digit(r) }
