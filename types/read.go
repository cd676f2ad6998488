package types

import (
	"strings"

	"lychgate/api"
)

// Read gives the type whose words begin at l[at], and the place of the first word behind it.
func Read(l []api.Word, at int) (a api.Type, next int, e error) {
	defer func() {
		cause := recover()
		if fault, ok := cause.(*api.Fault); ok {
			a, next, e = api.Type{}, 0, fault
		} else if cause != nil {
			panic(cause)
		}
	}()
	first := min(max(at, 0), len(l))
	r := reader{words: l, at: first}
	a = r.whole(loosest)
	if code := Check(a); code != api.OK {
		return api.Type{}, 0, &api.Fault{Code: code, At: l[first].At}
	}
	return a, r.at, nil
}

// A reader goes over words. At a word that can't stand it gives up by panic, with a *api.Fault.
type reader struct {
	words []api.Word
	at    int
}

// whole reads parts with words between them, as many as bind at least as tightly as least.
func (r *reader) whole(least int) api.Type {
	a := r.atom()
	for {
		kind, ok := r.kind(2)
		if !ok || shapes[kind].binds < least {
			return a
		}
		r.at++
		_, right := needs(kind)
		a = api.Type{Kind: kind, Kids: []api.Type{a, r.whole(right)}}
	}
}

// atom reads a type that is one word, or stands in brackets.
func (r *reader) atom() api.Type {
	if r.sees(api.WordSign, "(") {
		r.at++
		a := r.whole(loosest)
		r.want(r.sees(api.WordSign, ")"))
		return a
	}
	kind, ok := r.kind(0)
	r.want(ok)
	return api.Type{Kind: kind}
}

// kind tells which kind with so many parts the word at hand is for.
func (r *reader) kind(parts int) (int8, bool) {
	for kind := range shapes {
		if s := shapes[kind]; s.parts == parts && r.sees(s.wordKind, s.word) {
			return int8(kind), true
		}
	}
	return 0, false
}

func (r *reader) sees(kind int8, text string) bool {
	return r.at < len(r.words) && r.words[r.at].Kind == kind && r.words[r.at].Text == text
}

// want goes past the word at hand, if it is one that can stand there.
func (r *reader) want(stands bool) {
	if !stands {
		panic(r.fault())
	}
	r.at++
}

// fault tells of the word at hand, or, behind the last word, of that one's end.
func (r *reader) fault() *api.Fault {
	f := &api.Fault{Code: api.ErrSyntax}
	if r.at < len(r.words) {
		w := r.words[r.at]
		f.At, f.Word = w.At, strings.Clone(w.Text)
	} else if r.at > 0 {
		w := r.words[r.at-1]
		f.At = w.At + len(w.Text)
	}
	return f
}
