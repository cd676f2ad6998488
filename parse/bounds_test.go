package parse_test

import (
	"errors"
	"slices"
	"strings"
	"testing"

	"lychgate/api"
	"lychgate/parse"
	"lychgate/terms"
)

// P4.1: this file's tests.

// row is n times a word, with something between each two.
func row(n int, word, between string) string {
	return strings.TrimSuffix(strings.Repeat(word+between, n), between)
}

// balanced is a text with so many leaves, no deeper than it must be.
func balanced(leaves int, open, leaf, between, shut string) string {
	if leaves == 1 {
		return leaf
	}
	half := leaves / 2
	return open + balanced(leaves-half, open, leaf, between, shut) + between + balanced(half, open, leaf, between, shut) + shut
}

func pairs(leaves int) string { return balanced(leaves, "[", "1", ",", "]") }

func sums(leaves int) string { return balanced(leaves, "(", "?", "+", ")") }

var (
	tooBig  = api.Fault{Code: api.ErrTooBig}
	tooDeep = api.Fault{Code: api.ErrTooDeep}
)

// measured wants a text to be taken as a term of that depth and so many nodes.
func measured(t *testing.T, text string, depth, nodes int) {
	t.Helper()
	u, err := parse.Term(text)
	if err != nil || terms.Depth(u) != depth || terms.Nodes(u) != nodes || terms.Check(u) != api.OK {
		t.Errorf("Term(%.80q): %v; depth %d, nodes %d; want %d, %d", text, err, terms.Depth(u), terms.Nodes(u), depth, nodes)
	}
}

func TestTooDeep(t *testing.T) {
	for _, form := range [][2]string{
		{"fst ", ""}, {"snd ", ""}, {"inl{?}", ""}, {`\x:?.`, ""}, {"rec f(x:?):?.", ""}, {"let x:?=", " in 1"}, {"let x:?=1 in ", ""}, {"if ", " then 1 else 1"},
		{"if 1 then ", " else 1"}, {"if 1 then 1 else ", ""}, {"[", ",1]"}, {"[1,", "]"}, {"case ", " of x.1|y.1"}, {"case 1 of x.", "|y.1"}, {"case 1 of x.1|y.", ""}, {"f(", ")"},
		{"", "(1)"}, {"", "+1"}, {"", "-1"}, {"", "*1"}, {"", "/1"}, {"(", "<1)"}, {"", ":?"}, {"1+(", ")"},
	} {
		around := func(n int) string {
			return strings.Repeat(form[0], n) + "x" + strings.Repeat(form[1], n)
		}
		if u, err := parse.Term(around(199)); err != nil || terms.Depth(u) != 200 {
			t.Errorf("%q: %v, %d", form, err, terms.Depth(u))
		}
		refuses(t, around(200), tooDeep)
	}
	measured(t, "x:"+row(198, "?", "->"), 199, 397)
	measured(t, "x:"+row(199, "?", "->"), 200, 399)
	refuses(t, "x:"+row(200, "?", "->"), tooDeep)  // the type is not too deep, the term is
	refuses(t, " x:"+row(200, "?", "->"), tooDeep) // and that at 0, wherever it begins
	refuses(t, "rec f(x:?):"+row(200, "?", "+")+".x", tooDeep)
	refuses(t, "  "+strings.Repeat("fst ", 200)+"x", tooDeep)
	refusesWords(t, words(t, "; "+strings.Repeat("fst ", 200)+"x ;"), 1, tooDeep)
	measured(t, strings.Repeat("(", 500)+"x"+strings.Repeat(")", 500), 1, 1)
}

func TestTooBig(t *testing.T) {
	measured(t, pairs(4096), 13, 8191)
	measured(t, "fst "+pairs(4096), 14, 8192)
	refuses(t, "fst fst "+pairs(4096), tooBig)
	refuses(t, pairs(4097), tooBig)
	measured(t, `\x:`+sums(4095)+".fst x", 14, 8192)
	refuses(t, `\x:`+sums(4095)+".fst fst x", tooBig)
	refuses(t, `\x:`+sums(4096)+".x", tooBig) // the type is not too big, the term is
	refuses(t, "let x:"+sums(2048)+"="+pairs(1000)+" in "+pairs(1100), tooBig)
	refuses(t, "rec f(x:"+sums(2048)+"):"+sums(2049)+".x", tooBig)
	refusesWords(t, words(t, "; "+pairs(5000)+" ;"), 1, tooBig)
	// too deep as well
	refuses(t, row(4096, "1", "+"), tooDeep)
	refuses(t, row(4097, "1", "+"), tooBig)
	refuses(t, row(32768, "1", "+"), tooBig)
	refuses(t, strings.Repeat("fst ", 8191)+"x", tooDeep)
	refuses(t, strings.Repeat("fst ", 8192)+"x", tooBig)
	refuses(t, "f"+strings.Repeat("(1)", 20000), tooBig)
	refuses(t, "f"+strings.Repeat(":?", 30000), tooBig)
	refuses(t, strings.Repeat("f(", 20000)+"x"+strings.Repeat(")", 20000), tooBig)
}

func TestTypesThatAreTooGreat(t *testing.T) {
	deep, big := row(201, "?", "->"), sums(4097)
	at := func(code api.Errno, at int) api.Fault { return api.Fault{Code: code, At: at} }
	for _, around := range [][2]string{
		{"x: ", ""}, {"\\x:\n", ".x"}, {"let x:", "=1 in x"}, {"rec f(x:", "):?.x"}, {"rec f(x:?):", ".x"}, {"inl{", "}x"}, {"fst inr{(?)+", "}x"}, {"f(1:?:", ")"}, {"[1,x:", "]"}, {"case 1:", " of x.x|y.y"},
	} {
		place := len(around[0])
		if strings.HasSuffix(around[0], "+") {
			place -= len("(?)+") // the type's first word
		}
		refuses(t, around[0]+deep+around[1], at(api.ErrTooDeep, place))
		refuses(t, around[0]+big+around[1], at(api.ErrTooBig, place))
		refuses(t, around[0]+big+"->"+deep+around[1], at(api.ErrTooBig, place))
		refuses(t, around[0]+deep+" ;", at(api.ErrTooDeep, place)) // what is wrong behind it is not told
		refuses(t, "? "+around[0]+deep+around[1], syntax(0, "?"))
		wrong := around[0] + deep + "-> ;"
		refuses(t, wrong, syntax(len(wrong)-1, ";"))
	}
	refuses(t, "x:"+deep+":"+big, at(api.ErrTooDeep, 2))
	refuses(t, "x:"+big+":"+deep, at(api.ErrTooBig, 2))
	refuses(t, "x:?:"+deep+":"+big, at(api.ErrTooDeep, 4))
	refuses(t, strings.Repeat("fst ", 9000)+"(x:"+deep+")", at(api.ErrTooDeep, 36003)) // ahead of what the whole is
	refusesWords(t, words(t, "; x : "+deep), 1, at(api.ErrTooDeep, 6))
}

// Words that can't stand are told ahead of the term's being too great, and what Words tells ahead of what is behind the term.
func TestWhichFaultIsFirst(t *testing.T) {
	deep, big := strings.Repeat("fst ", 200)+"x", pairs(4097)
	for text, first := range map[string]api.Fault{deep: tooDeep, big: tooBig} {
		refuses(t, text+" x", first)
		refuses(t, text+" ) ]", first)
		refuses(t, text+" +", syntax(len(text)+2, ""))
		refuses(t, text+" + )", syntax(len(text)+3, ")"))
		refuses(t, "("+text, syntax(len(text)+1, ""))
		refuses(t, text+" 1a", api.Fault{Code: api.ErrWord, At: len(text) + 1, Word: "1"})
		refusesWords(t, words(t, text+" )"), 0, first)
	}
	refuses(t, deep+"+"+big, tooBig)
	refuses(t, "["+big+","+deep+"]", tooBig)
}

// R1: as many words within one another as a text may have, and as the limits let in.
func TestManyNested(t *testing.T) {
	open, shut := strings.Repeat("(", 32767), strings.Repeat(")", 32767)
	takes(t, open+"x"+shut, "Var@32767 x")
	refuses(t, open+"x"+shut[1:], syntax(65534, ""))
	refuses(t, open+"xx"+shut[1:], syntax(65535, ""))
	refuses(t, open+open+"((", syntax(65536, ""))
	const many = 1 << 16
	for _, form := range []string{"(", "[", "f (", "[ 1 ,", "fst", "snd", "inl { ? }", `\ x : ? .`, "rec f ( x : ? ) : ? .", "let x : ? =", "let x : ? = 1 in", "if", "if 1 then", "case", "case 1 of x .", "1 +", "1 < (", "x :", "- ("} {
		l := words(t, form)
		l = l[:len(l)-1]
		for n := range l {
			l[n].At = 5
		}
		_, next, err := parse.Words(slices.Repeat(l, many), 0)
		if !errors.Is(err, api.ErrSyntax) || next != 0 {
			t.Errorf("%q: %v, %d", form, err, next)
		}
	}
	l := slices.Concat(slices.Repeat([]api.Word{sign("(", 0)}, many), []api.Word{name("x", 4)}, slices.Repeat([]api.Word{sign(")", 5)}, many))
	takesWords(t, l, 0, "Var@4 x", 2*many+1)
	refusesWords(t, slices.Concat(slices.Repeat([]api.Word{key("fst", 0)}, many), []api.Word{name("x", 4)}), 0, tooBig)
	refusesWords(t, slices.Concat([]api.Word{name("x", 4)}, slices.Repeat([]api.Word{sign("+", 0), number(1, 1)}, many)), 0, tooBig)
}
