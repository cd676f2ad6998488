package types_test

import (
	"errors"
	"fmt"
	"math"
	"slices"
	"strings"
	"testing"
	"unsafe"

	"lychgate/api"
	"lychgate/scan"
	"lychgate/types"
)

// words are those of text, the one of the kind WordEnd too.
func words(t *testing.T, text string) []api.Word {
	t.Helper()
	l, err := scan.All(text)
	if err != nil {
		t.Fatal(err)
	}
	return l
}

func sign(text string, at int) api.Word {
	return api.Word{Kind: api.WordSign, Text: text, At: at}
}

func key(text string, at int) api.Word {
	return api.Word{Kind: api.WordKey, Text: text, At: at}
}

// short is what x looks like, or how it begins.
func short(x any) string { return fmt.Sprintf("%.200s", fmt.Sprint(x)) }

// takes wants a type and the place behind it as the whole answer.
func takes(t *testing.T, l []api.Word, at int, want api.Type, next int) {
	t.Helper()
	a, n, err := types.Read(l, at)
	if err != nil || n != next || !types.Same(a, want) {
		t.Errorf("Read(%s, %d) = %s, %d, %v; want %s, %d", short(l), at, short(a), n, err, short(want), next)
	}
}

// refuses wants a fault as the whole answer.
func refuses(t *testing.T, l []api.Word, at int, want api.Fault) {
	t.Helper()
	a, next, err := types.Read(l, at)
	var f *api.Fault
	if !errors.As(err, &f) || *f != want {
		t.Errorf("Read(%s, %d) refuses with %v; want %v", short(l), at, err, want.Error())
	}
	if !errors.Is(err, want.Code) {
		t.Errorf("Read(%s, %d): %v is not %v", short(l), at, err, want.Code)
	}
	if a.Kind != 0 || len(a.Kids) != 0 || next != 0 {
		t.Errorf("Read(%s, %d) gives %s, %d beside an error", short(l), at, short(a), next)
	}
}

func syntax(at int, word string) api.Fault {
	return api.Fault{Code: api.ErrSyntax, At: at, Word: word}
}

// P2.5: this test and all those behind it.
func TestReadTypes(t *testing.T) {
	i, b, u := integer(), boolean(), unknown()
	for text, want := range map[string]api.Type{
		"?": u, "int": i, "bool": b,
		"int->bool": fun(i, b), "int*bool": pair(i, b), "int+bool": sum(i, b),
		"int -> int -> bool": fun(i, fun(i, b)), "(int -> int) -> bool": fun(fun(i, i), b),
		"int + bool + ?": sum(sum(i, b), u), "int + (bool + ?)": sum(i, sum(b, u)),
		"int * bool * ?": pair(pair(i, b), u), "int * (bool * ?)": pair(i, pair(b, u)),
		"int + bool * ?": sum(i, pair(b, u)), "int * bool + ?": sum(pair(i, b), u),
		"(int + bool) * ?": pair(sum(i, b), u), "int * (bool + ?)": pair(i, sum(b, u)),
		"int -> bool + ?": fun(i, sum(b, u)), "int + bool -> ?": fun(sum(i, b), u),
		"int -> bool * ?": fun(i, pair(b, u)), "int * bool -> ?": fun(pair(i, b), u),
		"(int -> bool) + ?": sum(fun(i, b), u), "int * (bool -> ?)": pair(i, fun(b, u)),
		"int + bool * ? -> ? * int + bool -> int": fun(sum(i, pair(b, u)), fun(sum(pair(u, i), b), i)),
		"?*int*bool + ?*int + bool -> ?":          fun(sum(sum(pair(pair(u, i), b), pair(u, i)), b), u),
		"((?))":                                   u,
		"(int)->((bool))":                         fun(i, b),
		"(int + bool) + (? + int)":                sum(sum(i, b), sum(u, i)),
		"(?->?) # a remark":                       fun(u, u),
	} {
		l := words(t, text)
		takes(t, l, 0, want, len(l)-1)
		takes(t, l[:len(l)-1], 0, want, len(l)-1)
	}
}

func TestReadAsManyAsCanBe(t *testing.T) {
	i := integer()
	for text, next := range map[string]int{
		"int -> int -> int )": 5, "int x": 1, "int int": 1, "int ?": 1, "int (int)": 1, "int )": 1, "(int) int": 3,
		"int . int": 1, "int = int": 1, "int - int": 1, "int / int": 1, "int > int": 1, "int - > int": 1, "int , int": 1, "int } int": 1,
		"int in": 1, "int 3": 1, "int * int ) * int": 3, "(int) )": 3, "int + int | int": 3, "int : int": 1,
	} {
		want := i
		switch {
		case next == 5:
			want = fun(i, fun(i, i))
		case strings.HasPrefix(text, "int *"):
			want = pair(i, i)
		case strings.HasPrefix(text, "int +"):
			want = sum(i, i)
		}
		takes(t, words(t, text), 0, want, next)
	}
}

func TestReadFromAPlace(t *testing.T) {
	i, b, u := integer(), boolean(), unknown()
	l := words(t, "int -> bool + ?")
	whole := fun(i, sum(b, u))
	for _, at := range []int{0, -1, -4, math.MinInt} {
		takes(t, l, at, whole, 5)
	}
	takes(t, l, 2, sum(b, u), 5)
	takes(t, l, 4, u, 5)
	refuses(t, l, 1, syntax(4, "->"))
	refuses(t, l, 3, syntax(12, "+"))
	refuses(t, l, 5, syntax(15, ""))
	for _, at := range []int{5, 6, 7, 1 << 40, math.MaxInt} {
		refuses(t, l[:5], at, syntax(15, ""))
		refuses(t, l[:3], at, syntax(11, ""))
		refuses(t, nil, at, syntax(0, ""))
	}
	// Behind the place words may be missing, and ahead of it anything may stand.
	takes(t, []api.Word{sign(")", 5), key("int", 9), sign(")", 12)}, 1, i, 2)
	refuses(t, []api.Word{sign("(", 5), key("int", 6), sign("*", 20)}, 1, syntax(21, ""))
}

func TestReadRefuses(t *testing.T) {
	for text, want := range map[string]api.Fault{
		"": syntax(0, ""), "  # only": syntax(8, ""), "x": syntax(0, "x"), " 3": syntax(1, "3"), "let": syntax(0, "let"),
		"int +": syntax(5, ""), "int ->": syntax(6, ""), "int *  ": syntax(7, ""),
		"->": syntax(0, "->"), "+ int": syntax(0, "+"), "*": syntax(0, "*"), ")": syntax(0, ")"), "true": syntax(0, "true"),
		"int + x": syntax(6, "x"), "int -> in": syntax(7, "in"), "int * )": syntax(6, ")"),
		"int + + int": syntax(6, "+"), "int * -> int": syntax(6, "->"), "int -> -> int": syntax(7, "->"),
		"(int": syntax(4, ""), "(": syntax(1, ""), "((int)": syntax(6, ""), "()": syntax(1, ")"), "( -> int)": syntax(2, "->"),
		"(int x)": syntax(5, "x"), "(int int)": syntax(5, "int"), "(int ?": syntax(5, "?"), "(int (int))": syntax(5, "("),
		"(int]": syntax(4, "]"), "[int]": syntax(0, "["), "int -> (int + )": syntax(14, ")"), "int + (bool . ?)": syntax(12, "."),
		"int + (bool": syntax(11, ""), "? -> (? * (? + ?)": syntax(17, ""),
	} {
		refuses(t, words(t, text), 0, want)
	}
}

func TestReadBehindTheLastWord(t *testing.T) {
	i := key("int", 3)
	refuses(t, []api.Word{i, sign("->", 7)}, 0, syntax(9, ""))
	refuses(t, []api.Word{i, sign("+", 7)}, -9, syntax(8, ""))
	refuses(t, []api.Word{sign("(", 100)}, 0, syntax(101, ""))
	refuses(t, []api.Word{sign("(", 9), i}, 0, syntax(6, ""))
	refuses(t, []api.Word{sign("(", 9), i}, 2, syntax(6, ""))
	refuses(t, []api.Word{{Kind: api.WordName, Text: "\u00e9\u00e9", At: -7}}, 1, syntax(-3, ""))
	refuses(t, []api.Word{{At: 12}}, 1, syntax(12, ""))
	refuses(t, []api.Word{{At: 12, Text: "abc"}}, 0, syntax(12, "abc"))
	refuses(t, []api.Word{}, 0, syntax(0, ""))
}

// Of a word its Kind and its Text count.
func TestReadWordsOfAnyKind(t *testing.T) {
	texts := []string{"?", "int", "bool", "(", ")", "->", "+", "*", "", "x", "Int", "int ", "-", "\xff"}
	i := key("int", 1)
	for kind := math.MinInt8; kind <= math.MaxInt8; kind++ {
		for _, text := range texts {
			w := api.Word{Kind: int8(kind), Text: text, Num: 7, At: 40}
			isSign, isKey := kind == api.WordSign, kind == api.WordKey
			switch {
			case isKey && text == "int":
				takes(t, []api.Word{w}, 0, integer(), 1)
			case isKey && text == "bool":
				takes(t, []api.Word{w}, 0, boolean(), 1)
			case isSign && text == "?":
				takes(t, []api.Word{w}, 0, unknown(), 1)
			case isSign && text == "(":
				takes(t, []api.Word{w, i, sign(")", 0)}, 0, integer(), 3)
			default:
				refuses(t, []api.Word{w, i}, 0, syntax(40, text))
			}
			joins := map[string]int8{"->": api.Fun, "*": api.Pair, "+": api.Sum}
			if joined, ok := joins[text]; ok && isSign {
				takes(t, []api.Word{i, w, i}, 0, of(joined, integer(), integer()), 3)
			} else {
				takes(t, []api.Word{i, w, i}, 0, integer(), 1)
			}
			if isSign && text == ")" {
				takes(t, []api.Word{sign("(", 0), i, w}, 0, integer(), 3)
			} else if _, ok := joins[text]; !ok || !isSign {
				refuses(t, []api.Word{sign("(", 0), i, w}, 0, syntax(40, text))
			}
		}
	}
}

func row(n int, word, between string) string {
	return strings.TrimSuffix(strings.Repeat(word+between, n), between)
}

func TestReadTooDeep(t *testing.T) {
	tooDeep := api.Fault{Code: api.ErrTooDeep, At: 2}
	for _, between := range []string{"->", "+", "*"} {
		l := words(t, "; "+row(200, "int", between)+" x")
		if a, next, err := types.Read(l, 1); err != nil || next != 400 || types.Depth(a) != 200 {
			t.Errorf("%s: %d, %v", between, next, err)
		}
		refuses(t, words(t, "; "+row(201, "int", between)), 1, tooDeep)
		behind := "; (" + row(201, "int", between) + ") -> "
		refuses(t, words(t, behind+"x"), 1, syntax(len(behind), "x"))
		refuses(t, words(t, "; ("+row(201, "int", between)+")"), 1, tooDeep)
		refuses(t, words(t, "; "+row(4096, "?", between)+" x"), 1, tooDeep)
		behind = "; " + row(201, "int", between) + "*"
		refuses(t, words(t, behind), 1, syntax(len(behind), ""))
	}
	open := strings.Repeat("(", 32767)
	takes(t, words(t, open+"?"+strings.Repeat(")", 32767)), 0, unknown(), api.MaxText-1)
	refuses(t, words(t, open+"?"+strings.Repeat(")", 32766)), 0, syntax(api.MaxText-2, ""))
	refuses(t, words(t, open+open+"(("), 0, syntax(api.MaxText, ""))
}

func TestReadTooBig(t *testing.T) {
	tooBig := api.Fault{Code: api.ErrTooBig, At: 1}
	rows := row(64, row(64, "?", "+"), "->") // 4096 leaves: 8191 nodes
	a, next, err := types.Read(words(t, rows+")"), 0)
	if err != nil || next != 8191 || types.Nodes(a) != 8191 {
		t.Errorf("%d, %v", next, err)
	}
	refuses(t, words(t, " "+rows+"+?)"), 0, tooBig)
	refuses(t, words(t, " "+row(4097, "?", "->")), 0, tooBig) // too deep as well
	refuses(t, words(t, " "+row(21000, "?", "->")), 0, tooBig)
	refuses(t, words(t, " "+rows+"+ ? ->"), 0, syntax(1+len(rows)+6, ""))
	refuses(t, words(t, " "+rows+"+ (? x"), 0, syntax(1+len(rows)+5, "x"))
}

// R1: as many words as may be within one another, and more than a text has.
func TestReadManyWords(t *testing.T) {
	const many = 1 << 16
	open := slices.Repeat([]api.Word{sign("(", 1)}, many)
	refuses(t, open, 0, syntax(2, ""))
	shut := slices.Repeat([]api.Word{sign(")", 1)}, many)
	takes(t, slices.Concat(open, []api.Word{sign("?", 1)}, shut), 0, unknown(), 2*many+1)
	arrows := slices.Repeat([]api.Word{sign("?", 1), sign("->", 2)}, many)
	refuses(t, arrows, 0, syntax(4, ""))
	refuses(t, arrows[1:], 1, syntax(4, ""))
	refuses(t, arrows[:len(arrows)-1], 0, api.Fault{Code: api.ErrTooBig, At: 1})
}

// R3.
func TestReadKeepsAndChangesNothing(t *testing.T) {
	l := slices.Grow(words(t, "(int -> ?) * bool"), 5)
	room := l[:cap(l)]
	before := slices.Clone(room)
	want := pair(fun(integer(), unknown()), boolean())
	first, _, err := types.Read(l, 0)
	second, _, _ := types.Read(l, 0)
	if err != nil || !slices.Equal(room, before) {
		t.Fatalf("%v; %v, ahead %v", err, room, before)
	}
	first.Kids[0].Kids[0], first.Kids[1] = boolean(), unknown()
	clear(l)
	if !types.Same(second, want) {
		t.Errorf("%v", second)
	}
}

func TestFaultsWordIsACopy(t *testing.T) {
	text := strings.Repeat("x", 9)
	var f *api.Fault
	_, _, err := types.Read([]api.Word{{Kind: api.WordName, Text: text}}, 0)
	if !errors.As(err, &f) || f.Word != text || unsafe.StringData(f.Word) == unsafe.StringData(text) {
		t.Errorf("%v", err)
	}
}
