package parse

import (
	"strings"

	"lychgate/api"
	"lychgate/scan"
	"lychgate/types"
)

// stop is what a reader is left with by panic.
type stop struct{ fault error }

// A reader goes over words. At a word that can't stand it gives up by panic.
type reader struct {
	words     []api.Word
	at        int
	operators map[string]operator
}

// word gives the word at hand; behind the last one an empty one.
func (r *reader) word() api.Word {
	if r.at < len(r.words) {
		return r.words[r.at]
	}
	return api.Word{}
}

// past goes past the word at hand, if it is one that can stand there, and gives it.
func (r *reader) past(stands bool) api.Word {
	if !stands {
		panic(stop{misfit(r.words, r.at)})
	}
	w := r.word()
	r.at++
	return w
}

// want goes past this key or sign.
func (r *reader) want(text string) { r.past(fixed(r.word()) == text) }

// name reads a name, and copies it, so that a term that is kept does not hold the text that it came from.
func (r *reader) name() string {
	w := r.word()
	return strings.Clone(r.past(w.Kind == api.WordName && scan.Name(w.Text)).Text)
}

// number reads a number. Words that come from elsewhere than from scan may have one below 0, which is none.
func (r *reader) number() int64 {
	w := r.word()
	return r.past(w.Kind == api.WordNumber && w.Num >= 0).Num
}

// typed reads a type.
func (r *reader) typed() api.Type {
	a, next, err := types.Read(r.words, r.at)
	if err != nil {
		panic(stop{err})
	}
	r.at = next
	return a
}

// misfit tells of the word at l[at], which can't stand there, or, behind the last word, of that one's end.
func misfit(l []api.Word, at int) *api.Fault {
	f := &api.Fault{Code: api.ErrSyntax}
	if at < len(l) {
		f.At, f.Word = l[at].At, strings.Clone(l[at].Text)
	} else if at > 0 {
		f.At = l[at-1].At + len(l[at-1].Text)
	}
	return f
}

// fixed gives the text of a key or a sign; of any other word none.
func fixed(w api.Word) string {
	if w.Kind == api.WordKey && scan.Key(w.Text) || w.Kind == api.WordSign && !scan.Key(w.Text) {
		return w.Text
	}
	return ""
}
