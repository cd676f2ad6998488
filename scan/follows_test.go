package scan_test

import (
	"errors"
	"math/big"
	"math/rand"
	"regexp"
	"slices"
	"strings"
	"testing"

	"lychgate/api"
	"lychgate/scan"
)

// The chapter's words, written down a second time as patterns.
var (
	gapForm    = regexp.MustCompile(`^(?:[\x20\x09\x0a\x0d]|#[^\n]*)*`)
	nameForm   = regexp.MustCompile(`^[A-Za-z_][A-Za-z_0-9]*`)
	numberForm = regexp.MustCompile(`^[0-9]+`)
	letterForm = regexp.MustCompile(`^[A-Za-z_]`)
	signForm   = regexp.MustCompile(`^(?:->|[\\.:=()\[\]{},|+\-*/<>?;])`)
)

// ruled answers as the patterns have it.
func ruled(text string) ([]api.Word, *api.Fault) {
	if len(text) > api.MaxText {
		return nil, &api.Fault{Code: api.ErrLong}
	}
	var words []api.Word
	for at := 0; ; {
		at += len(gapForm.FindString(text[at:]))
		if at == len(text) {
			return append(words, api.Word{At: at}), nil
		}
		w, code := ruledWord(text[at:])
		if code != api.OK {
			return nil, &api.Fault{Code: code, At: at, Word: w.Text}
		}
		w.At = at
		at += len(w.Text)
		words = append(words, w)
	}
}

func ruledWord(rest string) (api.Word, api.Errno) {
	if s := nameForm.FindString(rest); s != "" {
		if len(s) > 64 {
			return api.Word{Text: s}, api.ErrLong
		}
		if slices.Contains(keys(), s) {
			return api.Word{Kind: api.WordKey, Text: s}, api.OK
		}
		return api.Word{Kind: api.WordName, Text: s}, api.OK
	}
	if s := numberForm.FindString(rest); s != "" {
		n, _ := new(big.Int).SetString(s, 10)
		if !n.IsInt64() {
			return api.Word{Text: s}, api.ErrLong
		}
		if len(s) > 1 && s[0] == '0' || letterForm.MatchString(rest[len(s):]) {
			return api.Word{Text: s}, api.ErrWord
		}
		return api.Word{Kind: api.WordNumber, Text: s, Num: n.Int64()}, api.OK
	}
	if s := signForm.FindString(rest); s != "" {
		return api.Word{Kind: api.WordSign, Text: s}, api.OK
	}
	return api.Word{Text: rest[:1]}, api.ErrWord
}

// shortTexts are all texts of up to four of these pieces.
func shortTexts() []string {
	pieces := []string{"a", "Z", "_", "0", "7", "in", "-", ">", "(", "#", " ", "\n", "!", "\xc3", "\u00e9"}
	all := []string{""}
	for from, length := 0, 0; length < 4; length++ {
		to := len(all)
		for _, head := range all[from:to] {
			for _, p := range pieces {
				all = append(all, head+p)
			}
		}
		from = to
	}
	return all
}

// longTexts are many words and gaps in a row, always the same ones.
func longTexts() []string {
	pieces := strings.Split("a|Z9|_|let|inr|lets|0|7|42|"+greatest+"|->|-|>|+|(|)|[|]|{|}|,|.|:|=|?|;|*|/|<|\\| |\n|\t\r|# remark \xff\n|#\n|", "|")
	random := rand.New(rand.NewSource(1))
	var all []string
	for length := range 400 {
		var b strings.Builder
		for range length {
			b.WriteString(pieces[random.Intn(len(pieces))])
			if random.Intn(2) == 0 {
				b.WriteString(" ")
			}
		}
		all = append(all, b.String())
	}
	return all
}

func TestAllAgainstThePatterns(t *testing.T) {
	for _, text := range slices.Concat(shortTexts(), longTexts()) {
		if againstThePatterns(t, text); t.Failed() {
			return // one is enough: the next ones would tell the same
		}
	}
}

func againstThePatterns(t *testing.T, text string) {
	t.Helper()
	words, fault := ruled(text)
	if fault == nil {
		takes(t, text, words...)
	} else {
		refuses(t, text, fault.Code, fault.At, fault.Word)
	}
}

func TestNameIsWhatAllTakesWhole(t *testing.T) {
	for _, text := range shortTexts() {
		words, err := scan.All(text)
		want := err == nil && len(words) == 2 && words[0].Kind == api.WordName && words[0].Text == text
		if scan.Name(text) != want {
			t.Fatalf("Name(%q) is %v", text, !want)
		}
	}
}

// P1.3, its first half.
func TestWordsRiseAndStandWhereTheyTell(t *testing.T) {
	for _, text := range slices.Concat(shortTexts(), longTexts()) {
		words, err := scan.All(text)
		if err != nil {
			continue
		}
		past := 0
		for i, w := range words {
			if w.At < past || !strings.HasPrefix(text[w.At:], w.Text) {
				t.Fatalf("All(%q): %+v behind %d", text, w, past)
			}
			if (w.Kind == api.WordEnd) != (i == len(words)-1) || (w.Text == "") != (w.Kind == api.WordEnd) {
				t.Fatalf("All(%q): %+v as word %d of %d", text, w, i, len(words))
			}
			if gap := text[past:w.At]; gapForm.FindString(gap) != gap {
				t.Fatalf("All(%q): passed over %q", text, gap)
			}
			past = w.At + len(w.Text)
		}
		if past != len(text) {
			t.Fatalf("All(%q) ends at %d", text, past)
		}
	}
}

// P1.3, its second half.
func TestWordsJoinedByBlanks(t *testing.T) {
	for _, text := range slices.Concat(shortTexts(), longTexts()) {
		words, err := scan.All(text)
		if err != nil {
			continue
		}
		var parts []string
		for _, w := range words[:len(words)-1] {
			parts = append(parts, w.Text)
		}
		again, err := scan.All(strings.Join(parts, " "))
		if err != nil || !slices.EqualFunc(words, again, sameButAt) {
			t.Fatalf("All(%q) = %+v; joined %+v, %v", text, words, again, err)
		}
	}
}

func sameButAt(a, b api.Word) bool {
	a.At, b.At = 0, 0
	return a == b
}

// P1.4.
func TestWhatStandsBehindChangesNothing(t *testing.T) {
	behind := []string{"", "a", "0", ">", "- >", "in x", "\n1", "# a", "!", "\xc3", "007", strings.Repeat("a", api.MaxName+1)}
	for _, text := range slices.Concat(shortTexts(), longTexts()) {
		want, fault := scan.All(text)
		for i, tail := range behind {
			blank := " \n\t\r"[i%4 : i%4+1]
			got, err := scan.All(text + blank + tail)
			if fault != nil {
				if err == nil || err.Error() != fault.Error() {
					t.Fatalf("%q: %v, but with %q behind it %v", text, fault, tail, err)
				}
				continue
			}
			if err != nil {
				var f *api.Fault
				if !errors.As(err, &f) || f.At <= len(text) {
					t.Fatalf("%q with %q behind it: %v", text, tail, err)
				}
				continue
			}
			if ahead := len(want) - 1; !slices.Equal(got[:ahead], want[:ahead]) || got[ahead].At <= len(text) {
				t.Fatalf("%q: %+v, but with %q behind it %+v", text, want, tail, got)
			}
		}
	}
}

func FuzzAll(f *testing.F) {
	for _, text := range []string{"let x:int=3", "a->b # c", "-1 <> _", "", "007", "1a", "a!b", "\u00e9", greatest, tooGreat} {
		f.Add(text)
	}
	f.Fuzz(againstThePatterns)
}
