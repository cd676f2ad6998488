package parse_test

import (
	"errors"
	"fmt"
	"math"
	"reflect"
	"slices"
	"strconv"
	"strings"
	"testing"
	"unsafe"

	"lychgate/api"
	"lychgate/parse"
	"lychgate/scan"
	"lychgate/types"
)

func kindName(kind int8) string {
	return strings.Fields("Var Num Yes No Lam Rec App Let If Two Fst Snd Inl Inr Case Op Is Cast")[kind]
}

// typed tells of which kinds the Type counts.
func typed(kind int8) bool {
	return slices.Contains([]int8{api.Lam, api.Rec, api.Let, api.Inl, api.Inr, api.Is}, kind)
}

// shown is t as text, all that is in any of its fields: what does not count shows too, where it is not 0 or empty.
func shown(t api.Term) string {
	s := kindName(t.Kind) + "@" + strconv.Itoa(t.At)
	if t.Name != "" {
		s += " " + t.Name
	}
	if t.Arg != "" {
		s += " ," + t.Arg
	}
	if t.Kind == api.Num || t.Num != 0 {
		s += " " + strconv.FormatInt(t.Num, 10)
	}
	if typed(t.Kind) || t.Type.Kind != 0 || len(t.Type.Kids) > 0 {
		a, _ := types.Text(t.Type)
		s += " {" + a + "}"
	}
	if t.Kind == api.Rec || t.To.Kind != 0 || len(t.To.Kids) > 0 {
		a, _ := types.Text(t.To)
		s += " =>{" + a + "}"
	}
	if t.Label != 0 {
		s += " !" + strconv.Itoa(t.Label)
	}
	for _, kid := range t.Kids {
		s += " (" + shown(kid) + ")"
	}
	return s
}

// words are those of text, the one of the kind WordEnd too.
func words(t *testing.T, text string) []api.Word {
	t.Helper()
	l, err := scan.All(text)
	if err != nil {
		t.Fatal(err)
	}
	return l
}

func name(text string, at int) api.Word {
	return api.Word{Kind: api.WordName, Text: text, At: at}
}

func sign(text string, at int) api.Word {
	return api.Word{Kind: api.WordSign, Text: text, At: at}
}

func key(text string, at int) api.Word {
	return api.Word{Kind: api.WordKey, Text: text, At: at}
}

func number(n int64, at int) api.Word {
	return api.Word{Kind: api.WordNumber, Text: strconv.FormatInt(n, 10), Num: n, At: at}
}

// short is how x begins.
func short(x any) string { return fmt.Sprintf("%.200s", fmt.Sprint(x)) }

// takes wants a term, as it is shown, as the answer to a text.
func takes(t *testing.T, text, want string) {
	t.Helper()
	u, err := parse.Term(text)
	if err != nil || shown(u) != want {
		t.Errorf("Term(%.200q) = %.200s, %v; want %.200s", text, shown(u), err, want)
	}
}

// wanted wants a fault, and nothing beside it.
func wanted(t *testing.T, call string, u api.Term, next int, err error, want api.Fault) {
	t.Helper()
	var f *api.Fault
	if !errors.As(err, &f) || *f != want {
		t.Errorf("%s refuses with %.80v; want %.80v", call, err, want.Error())
	}
	if !errors.Is(err, want.Code) {
		t.Errorf("%s: %.80v is not %v", call, err, want.Code)
	}
	if next != 0 || !reflect.DeepEqual(u, api.Term{}) {
		t.Errorf("%s gives %.200s, %d beside an error", call, shown(u), next)
	}
}

// refuses wants a fault as the answer to a text.
func refuses(t *testing.T, text string, want api.Fault) {
	t.Helper()
	u, err := parse.Term(text)
	wanted(t, fmt.Sprintf("Term(%.100q)", text), u, 0, err, want)
}

// takesWords wants a term, as it is shown, and the place behind it.
func takesWords(t *testing.T, l []api.Word, at int, want string, next int) {
	t.Helper()
	u, n, err := parse.Words(l, at)
	if err != nil || n != next || shown(u) != want {
		t.Errorf("Words(%s, %d) = %.200s, %d, %v; want %.200s, %d", short(l), at, shown(u), n, err, want, next)
	}
}

func refusesWords(t *testing.T, l []api.Word, at int, want api.Fault) {
	t.Helper()
	u, next, err := parse.Words(l, at)
	wanted(t, fmt.Sprintf("Words(%s, %d)", short(l), at), u, next, err, want)
}

func syntax(at int, word string) api.Fault {
	return api.Fault{Code: api.ErrSyntax, At: at, Word: word}
}

// P4.1 and P4.2: this test and those behind it.
func TestExamplesOfTheChapter(t *testing.T) {
	takes(t, `\x:int.x+1`, "Lam@0 x {int} (Op@8 + (Var@7 x) (Num@9 1))")
	takes(t, "f(1)(2) : ?", "Is@8 {?} (App@4 (App@1 (Var@0 f) (Num@2 1)) (Num@5 2))")
	takes(t, "-1 - -2 * 3", "Op@3 - (Num@0 -1) (Op@8 * (Num@5 -2) (Num@10 3))")
	refuses(t, "1 < 2 < 3", syntax(6, "<"))
	refuses(t, "x y", syntax(2, "y"))
	refuses(t, "", syntax(0, ""))
	refuses(t, "[1, 2", syntax(5, ""))
	takes(t, "inl {int + ?} fst [1, 2]", "Inl@0 {int + ?} (Fst@14 (Two@18 (Num@19 1) (Num@22 2)))")
	takes(t, "1 : int : ?", "Is@8 {?} (Is@2 {int} (Num@0 1))")
}

func TestEachForm(t *testing.T) {
	for text, want := range map[string]string{
		" x": "Var@1 x", "_9": "Var@0 _9", "def": "Var@0 def",
		"0": "Num@0 0", "7 # seven": "Num@0 7", "-7": "Num@0 -7", " - 7": "Num@1 -7", "-0": "Num@0 0",
		"9223372036854775807": "Num@0 9223372036854775807", "-9223372036854775807": "Num@0 -9223372036854775807",
		"true": "Yes@0", "false": "No@0",
		`\x:?.x`:                              "Lam@0 x {?} (Var@5 x)",
		`\f:int->?*bool.f`:                    "Lam@0 f {int -> ? * bool} (Var@15 f)",
		`\x:?.\x:(?).1`:                       "Lam@0 x {?} (Lam@5 x {?} (Num@12 1))",
		"rec f(x:int):bool.f":                 "Rec@0 f ,x {int} =>{bool} (Var@18 f)",
		"rec f ( f : ? ) : ?->? . 1":          "Rec@0 f ,f {?} =>{? -> ?} (Num@25 1)",
		"f(x)":                                "App@1 (Var@0 f) (Var@2 x)",
		"let x:int=1 in x":                    "Let@0 x {int} (Num@10 1) (Var@15 x)",
		"let x:bool=1=2 in x":                 "Let@0 x {bool} (Op@12 = (Num@11 1) (Num@13 2)) (Var@18 x)",
		"let x:?=let y:?=1 in y in x":         "Let@0 x {?} (Let@8 y {?} (Num@16 1) (Var@21 y)) (Var@26 x)",
		"if a then b else c":                  "If@0 (Var@3 a) (Var@10 b) (Var@17 c)",
		"if if a then b else c then d else e": "If@0 (If@3 (Var@6 a) (Var@13 b) (Var@20 c)) (Var@27 d) (Var@34 e)",
		"if a then if b then c else d else e": "If@0 (Var@3 a) (If@10 (Var@13 b) (Var@20 c) (Var@27 d)) (Var@34 e)",
		"[a,b]":                               "Two@0 (Var@1 a) (Var@3 b)",
		`[\x:?.x,if a then b else c]`:         "Two@0 (Lam@1 x {?} (Var@6 x)) (If@8 (Var@11 a) (Var@18 b) (Var@25 c))",
		"fst a":                               "Fst@0 (Var@4 a)", "snd a": "Snd@0 (Var@4 a)",
		"inl{int+?}a":                       "Inl@0 {int + ?} (Var@10 a)",
		"inr { int } a":                     "Inr@0 {int} (Var@12 a)",
		"case a of x.b|y.c":                 "Case@0 x ,y (Var@5 a) (Var@12 b) (Var@16 c)",
		"case a of x.case b of x.1|y.2|x.3": "Case@0 x ,x (Var@5 a) (Case@12 x ,y (Var@17 b) (Num@24 1) (Num@28 2)) (Num@32 3)",
		"case case a of x.1|y.2 of x.3|y.case b of x.4|y.5": "Case@0 x ,y (Case@5 x ,y (Var@10 a) (Num@17 1) (Num@21 2)) (Num@28 3) (Case@32 x ,y (Var@37 b) (Num@44 4) (Num@48 5))",
		"1+2": "Op@1 + (Num@0 1) (Num@2 2)", "1-2": "Op@1 - (Num@0 1) (Num@2 2)",
		"1*2": "Op@1 * (Num@0 1) (Num@2 2)", "1/2": "Op@1 / (Num@0 1) (Num@2 2)",
		"1<2": "Op@1 < (Num@0 1) (Num@2 2)", "1=2": "Op@1 = (Num@0 1) (Num@2 2)",
		"a:int": "Is@1 {int} (Var@0 a)",
		"(a)":   "Var@1 a",
	} {
		takes(t, text, want)
	}
}

// Which form may be a part of which other one, and how the parts are told.
func TestPartsOfParts(t *testing.T) {
	for text, want := range map[string]string{
		"a+b+c":        "Op@3 + (Op@1 + (Var@0 a) (Var@2 b)) (Var@4 c)",
		"a-b-c":        "Op@3 - (Op@1 - (Var@0 a) (Var@2 b)) (Var@4 c)",
		"a-b+c":        "Op@3 + (Op@1 - (Var@0 a) (Var@2 b)) (Var@4 c)",
		"a-(b+c)":      "Op@1 - (Var@0 a) (Op@4 + (Var@3 b) (Var@5 c))",
		"a*b*c":        "Op@3 * (Op@1 * (Var@0 a) (Var@2 b)) (Var@4 c)",
		"a/b/c":        "Op@3 / (Op@1 / (Var@0 a) (Var@2 b)) (Var@4 c)",
		"a/b*c":        "Op@3 * (Op@1 / (Var@0 a) (Var@2 b)) (Var@4 c)",
		"a/(b*c)":      "Op@1 / (Var@0 a) (Op@4 * (Var@3 b) (Var@5 c))",
		"a+b*c":        "Op@1 + (Var@0 a) (Op@3 * (Var@2 b) (Var@4 c))",
		"a*b+c":        "Op@3 + (Op@1 * (Var@0 a) (Var@2 b)) (Var@4 c)",
		"(a+b)*c":      "Op@5 * (Op@2 + (Var@1 a) (Var@3 b)) (Var@6 c)",
		"a*(b+c)":      "Op@1 * (Var@0 a) (Op@4 + (Var@3 b) (Var@5 c))",
		"a-b/c-d":      "Op@5 - (Op@1 - (Var@0 a) (Op@3 / (Var@2 b) (Var@4 c))) (Var@6 d)",
		"a+b<c*d":      "Op@3 < (Op@1 + (Var@0 a) (Var@2 b)) (Op@5 * (Var@4 c) (Var@6 d))",
		"a=b-c":        "Op@1 = (Var@0 a) (Op@3 - (Var@2 b) (Var@4 c))",
		"(a<b)=c":      "Op@5 = (Op@2 < (Var@1 a) (Var@3 b)) (Var@6 c)",
		"a<(b=c)":      "Op@1 < (Var@0 a) (Op@4 = (Var@3 b) (Var@5 c))",
		"a<b:bool":     "Is@3 {bool} (Op@1 < (Var@0 a) (Var@2 b))",
		"a:bool:?:int": "Is@8 {int} (Is@6 {?} (Is@1 {bool} (Var@0 a)))",
		"(a:int)+b":    "Op@7 + (Is@2 {int} (Var@1 a)) (Var@8 b)",
		"a+(b:int)":    "Op@1 + (Var@0 a) (Is@4 {int} (Var@3 b))",
		"a+b:int->int": "Is@3 {int -> int} (Op@1 + (Var@0 a) (Var@2 b))",
		"fst a+b":      "Op@5 + (Fst@0 (Var@4 a)) (Var@6 b)",
		"fst(a+b)":     "Fst@0 (Op@5 + (Var@4 a) (Var@6 b))",
		"a*snd b*c":    "Op@7 * (Op@1 * (Var@0 a) (Snd@2 (Var@6 b))) (Var@8 c)",
		"fst snd a(b)": "Fst@0 (Snd@4 (App@9 (Var@8 a) (Var@10 b)))",
		"(fst a)(b)":   "App@7 (Fst@1 (Var@5 a)) (Var@8 b)",
		"fst inr{?}-1": "Fst@0 (Inr@4 {?} (Num@10 -1))",
		"inl{?}a=b":    "Op@7 = (Inl@0 {?} (Var@6 a)) (Var@8 b)",
		"a(b)(c)(d)":   "App@7 (App@4 (App@1 (Var@0 a) (Var@2 b)) (Var@5 c)) (Var@8 d)",
		"a(b(c))":      "App@1 (Var@0 a) (App@3 (Var@2 b) (Var@4 c))",
		"a(b)*c(d)":    "Op@4 * (App@1 (Var@0 a) (Var@2 b)) (App@6 (Var@5 c) (Var@7 d))",
		"a(b:?)":       "App@1 (Var@0 a) (Is@3 {?} (Var@2 b))",
		`a(\x:?.x)`:    `App@1 (Var@0 a) (Lam@2 x {?} (Var@7 x))`,
		"1(2)":         "App@1 (Num@0 1) (Num@2 2)",
		"true(false)":  "App@4 (Yes@0) (No@5)",
		"[a,b](c)":     "App@5 (Two@0 (Var@1 a) (Var@3 b)) (Var@6 c)",
		"(-1)(2)":      "App@4 (Num@1 -1) (Num@5 2)",
		"a--1":         "Op@1 - (Var@0 a) (Num@2 -1)",
		"-1*-2":        "Op@2 * (Num@0 -1) (Num@3 -2)",
		"(((a)))((b))": "App@7 (Var@3 a) (Var@9 b)",
		// what goes on to the end takes all that is behind it
		`\x:?.x:int`:                "Lam@0 x {?} (Is@6 {int} (Var@5 x))",
		`(\x:?.x):int`:              "Is@8 {int} (Lam@1 x {?} (Var@6 x))",
		"if a then b else c+d:?":    "If@0 (Var@3 a) (Var@10 b) (Is@20 {?} (Op@18 + (Var@17 c) (Var@19 d)))",
		"(if a then b else c)+d":    "Op@20 + (If@1 (Var@4 a) (Var@11 b) (Var@18 c)) (Var@21 d)",
		"let x:?=1:? in x(x)":       "Let@0 x {?} (Is@9 {?} (Num@8 1)) (App@16 (Var@15 x) (Var@17 x))",
		"case a of x.x:?|y.y:?":     "Case@0 x ,y (Var@5 a) (Is@13 {?} (Var@12 x)) (Is@19 {?} (Var@18 y))",
		"rec f(x:?):?.x=x":          "Rec@0 f ,x {?} =>{?} (Op@14 = (Var@13 x) (Var@15 x))",
		"if a:? then b<c else d:?":  "If@0 (Is@4 {?} (Var@3 a)) (Op@13 < (Var@12 b) (Var@14 c)) (Is@22 {?} (Var@21 d))",
		"case a:?+? of x.x|y.y=1:?": "Case@0 x ,y (Is@6 {? + ?} (Var@5 a)) (Var@16 x) (Is@23 {?} (Op@21 = (Var@20 y) (Num@22 1)))",
	} {
		takes(t, text, want)
	}
}

func TestWordsThatCannotStand(t *testing.T) {
	for text, want := range map[string]api.Fault{
		"x : int -> int(1)": syntax(14, "("), "1 = 2 < 3": syntax(6, "<"), "1 < 2 : ? < 3": syntax(10, "<"), "1 : ? : ? + 1": syntax(12, "1"),
		"1 : int * 2": syntax(10, "2"), "1 : ? < 2": syntax(6, "<"), "1 : x": syntax(4, "x"), "1 :": syntax(3, ""),
		"- x": syntax(2, "x"), "--1": syntax(1, "-"), "-(1)": syntax(1, "("), "-": syntax(1, ""), "-1(2)": syntax(2, "("), "fst -1(2)": syntax(6, "("),
		"1 + fst a : ? (1)": syntax(14, "("), "a < b(c) < d": syntax(9, "<"),
		`1 + \x:?.x`: syntax(4, `\`), "1 * if a then b else c": syntax(4, "if"), "fst let x:?=1 in x": syntax(4, "let"),
		"inl{?} rec f(x:?):?.x": syntax(7, "rec"), "1 < case a of x.x|y.y": syntax(4, "case"), `f \x:?.x`: syntax(2, `\`),
		"+ 1": syntax(0, "+"), "1 +": syntax(3, ""), "1 + * 2": syntax(4, "*"), "* ": syntax(0, "*"), "f(": syntax(2, ""), "f()": syntax(2, ")"), "f(1": syntax(3, ""),
		"f(1,2)": syntax(3, ","), "(": syntax(1, ""), "()": syntax(1, ")"), "(1": syntax(2, ""), "(1]": syntax(2, "]"), ")": syntax(0, ")"), "1)": syntax(1, ")"),
		"[": syntax(1, ""), "[]": syntax(1, "]"), "[1]": syntax(2, "]"), "[1,": syntax(3, ""), "[1,2": syntax(4, ""), "[1,2,3]": syntax(4, ","), "[1,2)": syntax(4, ")"),
		`\`: syntax(1, ""), `\1`: syntax(1, "1"), `\let`: syntax(1, "let"), `\x`: syntax(2, ""), `\x.x`: syntax(2, "."), `\x:`: syntax(3, ""), `\x:.`: syntax(3, "."),
		`\x:?`: syntax(4, ""), `\x:?x`: syntax(4, "x"), `\x:?.`: syntax(5, ""), `\x:int->.x`: syntax(8, "."), `\x:(?.x`: syntax(5, "."),
		"rec": syntax(3, ""), "rec (": syntax(4, "("), "rec f": syntax(5, ""), "rec f x": syntax(6, "x"), "rec f(1": syntax(6, "1"), "rec f(x)": syntax(7, ")"),
		"rec f(x:)": syntax(8, ")"), "rec f(x:?.": syntax(9, "."), "rec f(x:?).": syntax(10, "."), "rec f(x:?):.": syntax(11, "."), "rec f(x:?):?x": syntax(12, "x"),
		"let": syntax(3, ""), "let 1": syntax(4, "1"), "let x=1 in x": syntax(5, "="), "let x:int 1": syntax(10, "1"), "let x:=": syntax(6, "="), "let x:?= in": syntax(9, "in"),
		"let x:int=1 of": syntax(12, "of"), "let x:?=1 in": syntax(12, ""), "let x:?=1=2=3 in x": syntax(11, "="),
		"if": syntax(2, ""), "if a b": syntax(5, "b"), "if a then": syntax(9, ""), "if a then b": syntax(11, ""), "if a then b then": syntax(12, "then"), "if a then b else": syntax(16, ""),
		"if a else b": syntax(5, "else"), "then": syntax(0, "then"), "1 else": syntax(2, "else"),
		"case": syntax(4, ""), "case a": syntax(6, ""), "case a in": syntax(7, "in"), "case a of": syntax(9, ""), "case a of 1": syntax(10, "1"), "case a of x": syntax(11, ""),
		"case a of x:?.x": syntax(11, ":"), "case a of x.x": syntax(13, ""), "case a of x.x,": syntax(13, ","), "case a of x.x|": syntax(14, ""), "case a of x.x|1": syntax(14, "1"),
		"case a of x.x|y": syntax(15, ""), "case a of x.x|y.": syntax(16, ""), "case a of x.x|y.y|z.z": syntax(17, "|"),
		"fst": syntax(3, ""), "fst )": syntax(4, ")"), "inl": syntax(3, ""), "inl x": syntax(4, "x"), "inl(": syntax(3, "("), "inl{": syntax(4, ""), "inl{}": syntax(4, "}"), "inl{?": syntax(5, ""),
		"inl{?)": syntax(5, ")"), "inl{?}": syntax(6, ""), "inr{1}": syntax(4, "1"), "inr{?}+": syntax(6, "+"),
		"int": syntax(0, "int"), "?": syntax(0, "?"), "x true": syntax(2, "true"), "x 1": syntax(2, "1"), "x.y": syntax(1, "."), "x;": syntax(1, ";"), "{x}": syntax(0, "{"), "x->y": syntax(1, "->"),
		"1 > 2": syntax(2, ">"), " # nothing": syntax(10, ""), "1 + # nothing": syntax(13, ""),
	} {
		refuses(t, text, want)
	}
}

// P4.2: scan's fault is ahead of all others.
func TestTermTellsScansFaults(t *testing.T) {
	refuses(t, "1 !", api.Fault{Code: api.ErrWord, At: 2, Word: "!"})
	refuses(t, ") + 1a", api.Fault{Code: api.ErrWord, At: 4, Word: "1"})
	refuses(t, "1 2 \xff", api.Fault{Code: api.ErrWord, At: 4, Word: "\xff"})
	refuses(t, "] 9223372036854775808", api.Fault{Code: api.ErrLong, At: 2, Word: "9223372036854775808"})
	refuses(t, ", "+strings.Repeat("x", 65), api.Fault{Code: api.ErrLong, At: 2, Word: strings.Repeat("x", 65)})
	takes(t, strings.Repeat("x", 64), "Var@0 "+strings.Repeat("x", 64))
	blanks := strings.Repeat(" ", api.MaxText-1)
	takes(t, blanks+"x", "Var@65535 x")
	refuses(t, blanks+"x ", api.Fault{Code: api.ErrLong})
}

// P4.1: where it begins, and how far it goes.
func TestWordsGoAsFarAsTheyCan(t *testing.T) {
	l := words(t, "x : ? ; f(1) y")
	for _, at := range []int{0, -1, math.MinInt} {
		takesWords(t, l, at, "Is@2 {?} (Var@0 x)", 3)
	}
	refusesWords(t, l, 1, syntax(2, ":"))
	refusesWords(t, l, 2, syntax(4, "?"))
	refusesWords(t, l, 3, syntax(6, ";"))
	takesWords(t, l, 4, "App@9 (Var@8 f) (Num@10 1)", 8)
	takesWords(t, l, 5, "Num@10 1", 8)
	takesWords(t, l, 6, "Num@10 1", 7)
	takesWords(t, l, 8, "Var@13 y", 9)
	for _, at := range []int{9, 10, 11, math.MaxInt} {
		refusesWords(t, l, at, syntax(14, ""))
	}
	takesWords(t, words(t, "1 < 2 < 3"), 0, "Op@2 < (Num@0 1) (Num@4 2)", 3)
	takesWords(t, words(t, "-1(2)"), 0, "Num@0 -1", 2)
	takesWords(t, words(t, "-1(2)"), 2, "Num@3 2", 5)
	takesWords(t, words(t, "1 : ? + ? )"), 0, "Is@2 {? + ?} (Num@0 1)", 5)
	refusesWords(t, words(t, "1 : ? + )"), 0, syntax(8, ")"))
	refusesWords(t, words(t, "1 + )"), 0, syntax(4, ")"))
	refusesWords(t, words(t, "f ( ; "), 0, syntax(4, ";"))
	takesWords(t, words(t, `\x:?.x in x`), 0, "Lam@0 x {?} (Var@5 x)", 6)
	takesWords(t, words(t, "else 1 then"), 1, "Num@5 1", 2)
}

// P4.1: the end of the last word, where there is none of the kind WordEnd.
func TestWordsBehindTheLastOne(t *testing.T) {
	takesWords(t, []api.Word{name("x", 7)}, 0, "Var@7 x", 1)
	takesWords(t, []api.Word{sign("(", 0), name("x", 7), sign(")", 9), name("y", 11)}, 0, "Var@7 x", 3)
	refusesWords(t, []api.Word{name("x", 7), key("then", 90)}, 2, syntax(94, ""))
	refusesWords(t, []api.Word{key("fst", 7)}, 0, syntax(10, ""))
	refusesWords(t, []api.Word{name("x", 7), sign(":", 8)}, 0, syntax(9, ""))
	refusesWords(t, []api.Word{sign("[", 9), name("x", 3), sign(",", -5)}, -1, syntax(-4, ""))
	refusesWords(t, []api.Word{sign("->", 9)}, 1, syntax(11, ""))
	refusesWords(t, []api.Word{{At: 12}}, 0, syntax(12, ""))
	refusesWords(t, []api.Word{{At: 12, Text: "end"}}, 0, syntax(12, "end"))
	refusesWords(t, []api.Word{{At: 12}}, 1, syntax(12, ""))
	for _, at := range []int{-1, 0, 1} {
		refusesWords(t, nil, at, syntax(0, ""))
		refusesWords(t, []api.Word{}, at, syntax(0, ""))
	}
}

// Words that scan does not tell can't stand: of a word its Kind and its Text count.
func TestWordsThatAreNone(t *testing.T) {
	for _, w := range []api.Word{
		name("", 3), name("let", 3), name("true", 3), name("1a", 3), name("a b", 3), name("x ", 3), name("\u00e9", 3), name("(", 3), name(strings.Repeat("x", 65), 3),
		key("", 3), key("x", 3), key("(", 3), key("-", 3), key(`\`, 3), sign("", 3), sign("x", 3), sign("true", 3), sign("fst", 3), sign("let", 3), sign("((", 3), sign("!", 3),
		{Kind: api.WordNumber, Text: "-1", Num: -1, At: 3}, {Kind: api.WordEnd, Text: "x", At: 3}, {Kind: 5, Text: "x", At: 3}, {Kind: -1, Text: "(", At: 3}, {Kind: 127, Text: "1", Num: 1, At: 3},
	} {
		refusesWords(t, []api.Word{w, name("x", 70)}, 0, syntax(3, w.Text))
		refusesWords(t, []api.Word{sign("[", 1), w, name("x", 70)}, 0, syntax(3, w.Text))
		refusesWords(t, []api.Word{sign("[", 1), number(1, 2), w}, 0, syntax(3, w.Text))
		takesWords(t, []api.Word{name("f", 1), w, number(1, 2)}, 0, "Var@1 f", 1)
	}
	refusesWords(t, []api.Word{sign(`\`, 0), name("in", 1), sign(":", 2), sign("?", 3), sign(".", 4), name("x", 5)}, 0, syntax(1, "in"))
	refusesWords(t, []api.Word{sign(`\`, 0), name("x", 1), sign(":", 2), name("int", 3), sign(".", 4), name("x", 5)}, 0, syntax(3, "int"))
}

// What a number is stands in its Num; one below 0 is none, as scan tells none.
func TestNumbersOfWords(t *testing.T) {
	takesWords(t, []api.Word{number(5, 3)}, 0, "Num@3 5", 1)
	takesWords(t, []api.Word{sign("-", 2), number(5, 3)}, 0, "Num@2 -5", 2)
	takesWords(t, []api.Word{sign("-", 2), number(math.MaxInt64, 3)}, 0, "Num@2 -9223372036854775807", 2)
	for _, n := range []int64{-1, math.MinInt64} {
		refusesWords(t, []api.Word{number(n, 3)}, 0, syntax(3, strconv.FormatInt(n, 10)))
		refusesWords(t, []api.Word{sign("-", 2), number(n, 3)}, 0, syntax(3, strconv.FormatInt(n, 10)))
	}
}

// R3: what is handed in stays, with the room behind its end, and no later answer shows what is written into an earlier one.
func TestWordsKeepsAndChangesNothing(t *testing.T) {
	l := slices.Grow(words(t, `(\x:int->?.[x, inl{?+?}1])(2) ; y`), 5)
	room := l[:cap(l)]
	before := slices.Clone(room)
	first, _, err := parse.Words(l, 0)
	second, _, _ := parse.Words(l, 0)
	if err != nil || !slices.Equal(room, before) {
		t.Fatalf("%v; %v, ahead %v", err, room, before)
	}
	want := shown(second)
	first.Kids[0].Kids[0].Kids[1].Type.Kids[0].Kind = api.Int
	first.Kids[0].Type.Kids[1].Kind = api.Bool
	first.Kids[0].Kids[0].Kids[0] = api.Term{}
	first.Kids[1].Num = 9
	clear(l)
	if got := shown(second); got != want {
		t.Errorf("now %s, ahead %s", got, want)
	}
}

// LANGUAGE.md, rule 7: texts are copies, so that a term does not hold the words that it came from.
func TestNamesAreCopies(t *testing.T) {
	x, plus := strings.Repeat("x", 9), strings.Repeat("+", 1)
	u, _, err := parse.Words([]api.Word{name(x, 0), sign(plus, 9), name(x, 10)}, 0)
	if err != nil || u.Kids[0].Name != x || unsafe.StringData(u.Kids[0].Name) == unsafe.StringData(x) {
		t.Errorf("%s, %v", shown(u), err)
	}
	var f *api.Fault
	_, _, err = parse.Words([]api.Word{key(x, 0)}, 0)
	if !errors.As(err, &f) || f.Word != x || unsafe.StringData(f.Word) == unsafe.StringData(x) {
		t.Errorf("%v", err)
	}
}

// R2: how many goroutines work changes no answer.
func TestManyAtATime(t *testing.T) {
	done := make(chan error)
	for range 8 {
		go func() {
			var all error
			for n := range 200 {
				u, err := parse.Term("f(" + strconv.Itoa(n) + ") : int")
				_, refused := parse.Term("f(" + strconv.Itoa(n) + " : int")
				if err != nil || u.Kids[0].Kids[1].Num != int64(n) || !errors.Is(refused, api.ErrSyntax) {
					all = errors.Join(all, err, refused, errors.New("another answer"))
				}
			}
			done <- all
		}()
	}
	for range 8 {
		if err := <-done; err != nil {
			t.Error(err)
		}
	}
}
