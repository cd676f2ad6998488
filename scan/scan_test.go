package scan_test

import (
	"errors"
	"slices"
	"strconv"
	"strings"
	"testing"
	"unsafe"

	"lychgate/api"
	"lychgate/scan"
)

const (
	greatest = "9223372036854775807"
	tooGreat = "9223372036854775808"
)

func keys() []string {
	return strings.Fields("let in if then else rec case of fst snd inl inr true false int bool")
}

func name(text string, at int) api.Word {
	return api.Word{Kind: api.WordName, Text: text, At: at}
}

func key(text string, at int) api.Word {
	return api.Word{Kind: api.WordKey, Text: text, At: at}
}

func sign(text string, at int) api.Word {
	return api.Word{Kind: api.WordSign, Text: text, At: at}
}

func number(n int64, at int) api.Word {
	return api.Word{Kind: api.WordNumber, Text: strconv.FormatInt(n, 10), Num: n, At: at}
}

func end(at int) api.Word { return api.Word{Kind: api.WordEnd, At: at} }

// takes wants words as the whole answer.
func takes(t *testing.T, text string, words ...api.Word) {
	t.Helper()
	got, err := scan.All(text)
	if err != nil || !slices.Equal(got, words) {
		t.Errorf("All(%.40q) = %+v, %v; want %+v", text, got, err, words)
	}
}

// refuses wants a fault as the whole answer.
func refuses(t *testing.T, text string, code api.Errno, at int, word string) {
	t.Helper()
	got, err := scan.All(text)
	want := api.Fault{Code: code, At: at, Word: word}
	var f *api.Fault
	if !errors.As(err, &f) || *f != want {
		t.Errorf("All(%.40q) refuses with %.80v; want %.80v", text, err, want.Error())
	}
	if !errors.Is(err, code) {
		t.Errorf("All(%.40q): %.80v is not %v", text, err, code)
	}
	if len(got) != 0 {
		t.Errorf("All(%.40q) gives words beside an error: %+v", text, got)
	}
}

// P1.1: this test and those behind it, up to TestFirstErrorFromTheLeft.
func TestExamplesOfTheChapter(t *testing.T) {
	takes(t, "let x:int=3", key("let", 0), name("x", 4), sign(":", 5), key("int", 6), sign("=", 9), number(3, 10), end(11))
	takes(t, "a->b # c", name("a", 0), sign("->", 1), name("b", 3), end(8))
	takes(t, "-1 <> _", sign("-", 0), number(1, 1), sign("<", 3), sign(">", 4), name("_", 6), end(7))
	takes(t, "", end(0))
	refuses(t, "007", api.ErrWord, 0, "007")
	refuses(t, "1a", api.ErrWord, 0, "1")
	refuses(t, "a!b", api.ErrWord, 1, "!")
	refuses(t, "\u00e9", api.ErrWord, 0, "\xc3")
	takes(t, greatest, number(1<<63-1, 0), end(19))
	refuses(t, tooGreat, api.ErrLong, 0, tooGreat)
}

func TestOrdinaryTexts(t *testing.T) {
	takes(t, `\x:?.x+1`, sign(`\`, 0), name("x", 1), sign(":", 2), sign("?", 3), sign(".", 4), name("x", 5), sign("+", 6), number(1, 7), end(8))
	takes(t, "inl {int * bool} [x1, fst y];",
		key("inl", 0), sign("{", 4), key("int", 5), sign("*", 9), key("bool", 11), sign("}", 15),
		sign("[", 17), name("x1", 18), sign(",", 20), key("fst", 22), name("y", 26), sign("]", 27), sign(";", 28), end(29))
	takes(t, "case s of a.1|b.0/2", key("case", 0), name("s", 5), key("of", 7), name("a", 10), sign(".", 11), number(1, 12),
		sign("|", 13), name("b", 14), sign(".", 15), number(0, 16), sign("/", 17), number(2, 18), end(19))
	takes(t, "\ta\r\n (b)\n", name("a", 1), sign("(", 5), name("b", 6), sign(")", 7), end(9))
	takes(t, " \t\n\r", end(4))
}

func TestEveryByteAlone(t *testing.T) {
	for b := 0; b < 256 && !t.Failed(); b++ {
		text := string([]byte{byte(b)})
		switch {
		case strings.Contains(" \t\n\r#", text):
			takes(t, text, end(1))
		case strings.Contains("ABCDEFGHIJKLMNOPQRSTUVWXYZabcdefghijklmnopqrstuvwxyz_", text):
			takes(t, text, name(text, 0), end(1))
		case strings.Contains("0123456789", text):
			takes(t, text, number(int64(b-'0'), 0), end(1))
		case strings.Contains(`\.:=()[]{},|+-*/<>?;`, text):
			takes(t, text, sign(text, 0), end(1))
		default:
			refuses(t, text, api.ErrWord, 0, text)
			refuses(t, "a "+text+" b", api.ErrWord, 2, text)
		}
	}
}

func TestEveryByteBehindAWord(t *testing.T) {
	for b := 0; b < 256 && !t.Failed(); b++ {
		c := string([]byte{byte(b)})
		alone, err := scan.All(c)
		switch {
		case err != nil:
			refuses(t, "a"+c, api.ErrWord, 1, c)
			refuses(t, "12"+c, api.ErrWord, 2, c)
			refuses(t, "->"+c, api.ErrWord, 2, c)
		case alone[0].Kind == api.WordName:
			takes(t, "a"+c, name("a"+c, 0), end(2))
			refuses(t, "12"+c, api.ErrWord, 0, "12")
			takes(t, "->"+c, sign("->", 0), name(c, 2), end(3))
		case alone[0].Kind == api.WordNumber:
			takes(t, "a"+c, name("a"+c, 0), end(2))
			takes(t, "12"+c, number(120+int64(b-'0'), 0), end(3))
			takes(t, "->"+c, sign("->", 0), number(int64(b-'0'), 2), end(3))
		case alone[0].Kind == api.WordSign:
			takes(t, "a"+c, name("a", 0), sign(c, 1), end(2))
			takes(t, "12"+c, number(12, 0), sign(c, 2), end(3))
			takes(t, "->"+c, sign("->", 0), sign(c, 2), end(3))
		default:
			takes(t, "a"+c, name("a", 0), end(2))
			takes(t, "12"+c, number(12, 0), end(3))
			takes(t, "->"+c, sign("->", 0), end(3))
		}
	}
}

func TestArrow(t *testing.T) {
	takes(t, "- >", sign("-", 0), sign(">", 2), end(3))
	takes(t, "-->>", sign("-", 0), sign("->", 1), sign(">", 3), end(4))
	takes(t, "->->", sign("->", 0), sign("->", 2), end(4))
	takes(t, "-#\n>", sign("-", 0), sign(">", 3), end(4))
	takes(t, "<-", sign("<", 0), sign("-", 1), end(2))
	takes(t, "=>", sign("=", 0), sign(">", 1), end(2))
}

func TestRemarks(t *testing.T) {
	takes(t, "#", end(1))
	takes(t, "# x", end(3))
	takes(t, "#\n", end(2))
	takes(t, "1#1a 007 !", number(1, 0), end(10))
	takes(t, "a#b\nc", name("a", 0), name("c", 4), end(5))
	takes(t, "#a#\n#\n\nb", name("b", 7), end(8))
	takes(t, "#\rx\r\ny", name("y", 5), end(6))
	takes(t, "# \u00e9 \xff\xc3\nx", name("x", 8), end(9))
	takes(t, "#\xe2\x82\nx", name("x", 4), end(5))
	takes(t, "#\xf0\x9f\x98\x80", end(5))
	refuses(t, "#\xe2\x82\n\xe2\x82", api.ErrWord, 4, "\xe2")
	refuses(t, "# fine\n 1a # not", api.ErrWord, 8, "1")
}

func TestBytesThatAreNoUTF8(t *testing.T) {
	for _, text := range []string{"\xff", "\x80", "\xc3", "\xc3(", "\xe2\x82", "\xed\xa0\x80", "\xf4\x90\x80\x80", "\ufffd", "\ufeffx", "\u00a0", "\u0663", "\u2003", "\U0001f600"} {
		refuses(t, text, api.ErrWord, 0, text[:1])
		refuses(t, "x "+text+"\n", api.ErrWord, 2, text[:1])
		refuses(t, "x"+text, api.ErrWord, 1, text[:1])
		refuses(t, "1"+text, api.ErrWord, 1, text[:1])
	}
}

func TestTextAsLongAsMayBe(t *testing.T) {
	blanks := strings.Repeat(" ", api.MaxText)
	takes(t, blanks, end(api.MaxText))
	refuses(t, blanks+" ", api.ErrLong, 0, "")
	takes(t, blanks[:api.MaxText-1]+"x", name("x", api.MaxText-1), end(api.MaxText))
	takes(t, "#"+strings.Repeat("!", api.MaxText-1), end(api.MaxText))
	refuses(t, "#"+strings.Repeat("!", api.MaxText), api.ErrLong, 0, "")
	refuses(t, "!"+blanks, api.ErrLong, 0, "")
	refuses(t, strings.Repeat("a", api.MaxText+1), api.ErrLong, 0, "")

	words, err := scan.All(strings.Repeat("(", api.MaxText))
	if err != nil || len(words) != api.MaxText+1 {
		t.Fatal(len(words), err)
	}
	for i, w := range words[:api.MaxText] {
		if w != sign("(", i) {
			t.Fatalf("%+v at %d", w, i)
		}
	}
}

func TestNameAsLongAsMayBe(t *testing.T) {
	longest := strings.Repeat("aZ_9", api.MaxName/4)
	takes(t, longest, name(longest, 0), end(api.MaxName))
	takes(t, " "+longest+"+", name(longest, 1), sign("+", 1+api.MaxName), end(2+api.MaxName))
	refuses(t, longest+"a", api.ErrLong, 0, longest+"a")
	refuses(t, "x\n"+longest+"0;", api.ErrLong, 2, longest+"0")
	refuses(t, "let"+longest, api.ErrLong, 0, "let"+longest)
	refuses(t, longest+longest+"!", api.ErrLong, 0, longest+longest)
	whole := strings.Repeat("a", api.MaxText)
	refuses(t, whole, api.ErrLong, 0, whole)
}

func TestNumbers(t *testing.T) {
	zeros := strings.Repeat("0", 70)
	for _, n := range []int64{0, 1, 9, 10, 100, 4294967296, 1<<63 - 1} {
		takes(t, strconv.FormatInt(n, 10), number(n, 0), end(len(strconv.FormatInt(n, 10))))
	}
	for _, text := range []string{tooGreat, "9223372036854775810", "10000000000000000000", "18446744073709551615", "18446744073709551617", strings.Repeat("9", 70), strings.Repeat("1", api.MaxText)} {
		refuses(t, text, api.ErrLong, 0, text)
	}
	for _, text := range []string{"00", "01", "007", "0" + greatest, zeros, zeros + "1", zeros + greatest} {
		refuses(t, text, api.ErrWord, 0, text)
		refuses(t, "a+"+text+")", api.ErrWord, 2, text)
	}
	for _, behind := range []string{"a", "z", "A", "Z", "_", "let", "x1"} {
		refuses(t, "10"+behind, api.ErrWord, 0, "10")
		refuses(t, "- 0"+behind, api.ErrWord, 2, "0")
		refuses(t, "01"+behind, api.ErrWord, 0, "01")
		refuses(t, greatest+behind, api.ErrWord, 0, greatest)
		refuses(t, tooGreat+behind, api.ErrLong, 0, tooGreat)
	}
	refuses(t, "0"+tooGreat, api.ErrLong, 0, "0"+tooGreat)
	refuses(t, zeros+tooGreat, api.ErrLong, 0, zeros+tooGreat)
	takes(t, "0 0.0", number(0, 0), number(0, 2), sign(".", 3), number(0, 4), end(5))
	takes(t, "-"+greatest, sign("-", 0), number(1<<63-1, 1), end(20))
	refuses(t, "-"+tooGreat, api.ErrLong, 1, tooGreat)
}

func TestFirstErrorFromTheLeft(t *testing.T) {
	long := strings.Repeat("n", api.MaxName+1)
	refuses(t, "! 007 "+long, api.ErrWord, 0, "!")
	refuses(t, "x 007 ! "+long, api.ErrWord, 2, "007")
	refuses(t, "(1a)"+tooGreat, api.ErrWord, 1, "1")
	refuses(t, long+" !", api.ErrLong, 0, long)
	refuses(t, tooGreat+" 00", api.ErrLong, 0, tooGreat)
	refuses(t, "00 "+tooGreat, api.ErrWord, 0, "00")
}

// P1.2.
func TestKey(t *testing.T) {
	for _, k := range keys() {
		if !scan.Key(k) {
			t.Errorf("Key(%q) is false", k)
		}
		takes(t, k, key(k, 0), end(len(k)))
		takes(t, k+":", key(k, 0), sign(":", len(k)), end(len(k)+1))
		for _, near := range []string{k + "1", k + "s", "_" + k, strings.ToUpper(k), strings.ToUpper(k[:1]) + k[1:]} {
			if scan.Key(near) {
				t.Errorf("Key(%q) is true", near)
			}
			takes(t, near, name(near, 0), end(len(near)))
		}
		for _, near := range []string{k[:1], k + " ", " " + k, k + k, k + "#"} {
			if scan.Key(near) {
				t.Errorf("Key(%q) is true", near)
			}
		}
	}
	for _, none := range []string{"", "x", "def", "and", "1", "->", "?", "\xff", "let in", strings.Repeat("let", api.MaxText)} {
		if scan.Key(none) {
			t.Errorf("Key(%.40q) is true", none)
		}
	}
}

// P1.2.
func TestName(t *testing.T) {
	longest := strings.Repeat("n", api.MaxName)
	for _, n := range []string{"a", "z", "A", "Z", "_", "__", "x1", "_0", "X_y9Z", "Let", "lets", "def", longest} {
		if !scan.Name(n) {
			t.Errorf("Name(%q) is false", n)
		}
	}
	none := []string{"", " ", " x", "x ", "x\n", "x#", "#x", "#\nx", "a b", "a.b", "x-", "1", "1a", "0", "-", "->", "?", "x!", "\u00e9", "x\u00e9", "\xff", "x\xff", "x\x00", longest + "n", strings.Repeat("n", api.MaxText+1)}
	for _, n := range slices.Concat(none, keys()) {
		if scan.Name(n) {
			t.Errorf("Name(%.40q) is true", n)
		}
	}
}

func TestAnswersShareNothing(t *testing.T) {
	text := "let x:int=3 in x"
	first, _ := scan.All(text)
	want := slices.Clone(first)
	second, _ := scan.All(text)
	for i := range second {
		second[i] = api.Word{Kind: 99, Text: "written over", Num: -1, At: -1}
	}
	third, err := scan.All(text)
	if err != nil || !slices.Equal(first, want) || !slices.Equal(third, want) {
		t.Errorf("%+v, then %+v, %v; want %+v", first, third, err, want)
	}
}

// A string can be kept without being seen to be kept, but for where its bytes lie.
func TestWordsAreCopies(t *testing.T) {
	text := strings.Repeat("let x1 -> 42 ", 10) + "007"
	words, err := scan.All(text[:len(text)-3])
	if err != nil {
		t.Fatal(err)
	}
	for _, w := range words {
		if within(w.Text, text) {
			t.Errorf("%+v lies in the text", w)
		}
	}
	var f *api.Fault
	if _, err := scan.All(text); !errors.As(err, &f) || within(f.Word, text) {
		t.Errorf("%v: its word lies in the text", err)
	}
}

func within(part, whole string) bool {
	p, w := uintptr(unsafe.Pointer(unsafe.StringData(part))), uintptr(unsafe.Pointer(unsafe.StringData(whole)))
	return part != "" && p >= w && p < w+uintptr(len(whole))
}
