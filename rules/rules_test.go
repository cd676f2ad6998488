package rules_test

import (
	"slices"
	"strings"
	"testing"

	"lychgate/api"
	"lychgate/parse"
	"lychgate/rules"
	"lychgate/types"
)

// asking are rules by which all is well, and where what was asked is noted.
func asking(asked *[]string) rules.Rules {
	note := func(word string, l ...api.Type) {
		for _, a := range l {
			text, _ := types.Text(a)
			word += " " + text
		}
		*asked = append(*asked, word)
	}
	return rules.Rules{
		Refuse: rules.Without(api.Cast),
		Agree:  func(a, b api.Type) bool { note("agree", a, b); return true },
		Match: func(kind int8, a api.Type) (l, r api.Type, ok bool) {
			note("match", a)
			return api.Type{Kind: api.Int}, api.Type{Kind: api.Bool}, true
		},
		Meet: func(a, b api.Type) api.Type { note("meet", a, b); return b },
		Goes: func(from, to api.Type) bool { note("goes", from, to); return true },
	}
}

// What the rules' words mean is up to the fields: they are asked of what is there and of what is wanted, in the rules' order.
func TestTheFieldsAreAsked(t *testing.T) {
	for text, want := range map[string]string{
		`(1)(true)`:                           "match int; agree bool int; is bool",
		`fst 1`:                               "match int; is int",
		`snd 1`:                               "match int; is bool",
		`inl{?}true`:                          "match ?; agree bool int; is int + bool",
		`inr{?}1`:                             "match ?; agree int bool; is int + bool",
		`case true of x.[x, 1] | y.[y, 2]`:    "match bool; agree int * int bool * int; meet int * int bool * int; is bool * int",
		`if 1 then 2 else true`:               "agree int bool; agree int bool; meet int bool; is bool",
		`true+1`:                              "agree bool int; agree int int; is int",
		`true:?`:                              "agree bool ?; is ?",
		`let x:?=1 in x`:                      "agree int ?; is ?",
		`rec f(x:int):?.x`:                    "agree int ?; is int -> ?",
		`\x:int.x`:                            "is int -> int",
		`if true:? then fst 1 else (snd 2:?)`: "agree bool ?; match int; match int; agree bool ?; agree ? bool; agree int ?; meet int ?; is ?",
	} {
		x, err := parse.Term(text)
		var asked []string
		a, fail := asking(&asked).Type(x)
		is, _ := types.Text(a)
		if asked = append(asked, "is "+is); err != nil || fail != nil || strings.Join(asked, "; ") != want {
			t.Errorf("%s: %v, %v, %v; want %s", text, err, fail, asked, want)
		}
	}
}

// A Cast asks whether its kid's type is the one from which it goes, and then whether it may go so.
func TestCasts(t *testing.T) {
	cast := api.Term{Kind: api.Cast, Type: api.Type{Kind: api.Bool}, Label: 1, At: 5, Kids: []api.Term{{Kind: api.Num}}}
	var asked []string
	r := asking(&asked)
	r.Refuse = rules.Without(api.Is)
	if a, err := r.Type(cast); err != nil || a.Kind != api.Unknown || !slices.Equal(asked, []string{"agree int bool", "goes bool ?"}) {
		t.Error(a, err, asked)
	}
	r.Goes = func(from, to api.Type) bool { return false }
	if a, err := r.Type(cast); err == nil || err.Error() != "5: error 91: " || a.Kind != api.Unknown {
		t.Error(a, err)
	}
	if _, err := asking(&asked).Type(cast); err == nil || err.Error() != "0: error 30: " {
		t.Error(err)
	}
}

// Strict rules ask whether two types are the same, and match what is of the very kind.
func TestStrict(t *testing.T) {
	r := rules.Strict(rules.Without(api.Cast))
	for text, want := range map[string]string{
		`\y:?.(\x:?.x)(y)`: "? -> ?", `(\x:int.x)(1)`: "int", `if true then \x:?.x else \x:?.x`: "? -> ?", `fst [1, true]`: "int", `inl{?+int}(1:int)`: "", `(1:int)(1)`: "", `\x:?.x(1)`: "", `if true then 1:int else true`: "", `(\x:?.x)(1)`: "",
	} {
		x, err := parse.Term(text)
		a, fail := r.Type(x)
		is, _ := types.Text(a)
		if err != nil || (fail == nil) != (want != "") || fail == nil && is != want {
			t.Errorf("%s: %v, %v, %v; want %q", text, err, fail, is, want)
		}
	}
}

// What is refused of a kind is refused wherever it stands, behind what terms.Check refuses.
func TestWithout(t *testing.T) {
	for text, want := range map[string]string{`x`: "", `1:?`: "0: error 30: ", `\x:int.[x, if x:bool then 1 else 2]`: "0: error 30: ", `[x, \y:?.y]`: ""} {
		x, err := parse.Term(text)
		told := ""
		if fault := rules.Without(api.Is)(x); fault != nil {
			told = fault.Error()
		}
		if fault := rules.Without(api.Cast)(x); err != nil || fault != nil || told != want {
			t.Errorf("%s: %v, %v, %q; want %q", text, err, fault, told, want)
		}
	}
	for _, kind := range []int8{api.Is, api.Cast} {
		if fault := rules.Without(kind)(api.Term{Kind: kind}); fault == nil || fault.Code != api.ErrTerm {
			t.Error(kind, fault)
		}
	}
}

// What is refused is refused ahead of all else.
func TestRefusedAhead(t *testing.T) {
	var asked []string
	r := asking(&asked)
	r.Refuse = func(api.Term) *api.Fault { return &api.Fault{Code: api.ErrFull, At: 3} }
	x, _ := parse.Term(`y(fst 1)`)
	a, err := r.Type(x)
	if err == nil || err.Error() != "3: error 4: " || a.Kind != 0 || len(a.Kids) != 0 || len(asked) != 0 {
		t.Error(a, err, asked)
	}
}

// What the fields let pass may still fail.
func TestNames(t *testing.T) {
	var asked []string
	x, _ := parse.Term(`[1 + true, y]`)
	a, err := asking(&asked).Type(x)
	if err == nil || err.Error() != "11: error 41: y" || a.Kind != 0 || len(a.Kids) != 0 || !slices.Equal(asked, []string{"agree int int", "agree bool int"}) {
		t.Error(a, err, asked)
	}
}

// What is around a term: the last one of a name counts, and what is around one kid is not written over by what is around another one.
func TestAround(t *testing.T) {
	integer, boolean := api.Type{Kind: api.Int}, api.Type{Kind: api.Bool}
	wants := func(around rules.Around, name string, want api.Type, there bool) {
		t.Helper()
		if a, ok := around.Of(name); ok != there || !types.Same(a, want) {
			t.Errorf("%s: %v, %v", name, a, ok)
		}
	}
	var none rules.Around
	wants(none, "x", api.Type{}, false)
	outer := none.With(rules.Bind("x", integer), rules.Bind("y", integer), rules.Bind("z", integer))
	left, right := outer.With(rules.Bind("x", boolean)), outer.With(rules.Bind("y", boolean))
	twice := left.With(rules.Bind("x", integer), rules.Bind("x", boolean), rules.Bind("w", boolean))
	for name, want := range map[string][]api.Type{"x": {integer, boolean, integer, boolean}, "y": {integer, integer, boolean, integer}, "z": {integer, integer, integer, integer}} {
		for n, around := range []rules.Around{outer, left, right, twice} {
			wants(around, name, want[n], true)
		}
	}
	wants(twice, "w", boolean, true)
	wants(left, "w", api.Type{}, false)
	wants(left, "", api.Type{}, false)
	wants(outer.With(), "x", integer, true)
}

// What an operator makes of two numbers.
func TestAnswers(t *testing.T) {
	for operator, kind := range map[string]int8{"+": api.Int, "-": api.Int, "*": api.Int, "/": api.Int, "<": api.Bool, "=": api.Bool} {
		if a := rules.AnswerOf(operator); !types.Same(a, api.Type{Kind: kind}) {
			t.Errorf("%s: %v", operator, a)
		}
	}
}
