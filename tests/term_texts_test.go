package tests

import (
	"strconv"
	"strings"
	"testing"

	"loop.example/g03219/impl"
)

// termTexts pairs terms with the only texts that stand for them.
func termTexts() []struct {
	u    impl.Term
	text string
} {
	a, b, c := variable(3, "a"), variable(3, "b"), variable(1, "c")
	type pair = struct {
		u    impl.Term
		text string
	}
	l := []pair{
		{constant(1, 0), "1:0"}, {constant(3, 5), "3:5"}, {constant(16, 65535), "16:65535"}, {a, "a:3"}, {variable(16, "x2345678"), "x2345678:16"},
		{variable(1, "not"), "not:1"}, {variable(2, "if"), "if:2"}, {node(impl.OpNot, 3, 0, a), "(not a:3)"}, {node(impl.OpNeg, 3, 0, a), "(neg a:3)"},
		{node(impl.OpIf, 3, 0, c, a, b), "(if c:1 a:3 b:3)"}, {node(impl.OpJoin, 4, 0, a, c), "(join a:3 c:1)"}, {node(impl.OpJoin, 4, 0, c, a), "(join c:1 a:3)"},
		{node(impl.OpCut, 2, 1, a), "(cut 1 2 a:3)"}, {node(impl.OpCut, 3, 0, a), "(cut 0 3 a:3)"}, {node(impl.OpCut, 1, 12, variable(16, "d")), "(cut 12 1 d:16)"},
		{node(impl.OpGrow, 16, 0, a), "(grow 16 a:3)"}, {node(impl.OpGrow, 3, 0, a), "(grow 3 a:3)"}, {node(impl.OpStretch, 5, 0, a), "(stretch 5 a:3)"},
		{node(impl.OpNot, 3, 0, node(impl.OpNot, 3, 0, a)), "(not (not a:3))"}, {node(impl.OpSub, 3, 0, node(impl.OpNeg, 3, 0, a), node(impl.OpMul, 3, 0, b, constant(3, 7))), "(sub (neg a:3) (mul b:3 3:7))"},
		{node(impl.OpIf, 1, 0, node(impl.OpLess, 1, 0, a, b), node(impl.OpCut, 1, 2, a), node(impl.OpCut, 1, 0, node(impl.OpStretch, 6, 0, b))), "(if (less a:3 b:3) (cut 2 1 a:3) (cut 0 1 (stretch 6 b:3)))"},
	}
	for i, name := range strings.Fields("add sub mul div rem and or xor shl shr sar") {
		l = append(l, pair{node(3+i, 3, 0, a, constant(3, 6)), "(" + name + " a:3 3:6)"})
	}
	for i, name := range strings.Fields("eq less below") {
		l = append(l, pair{node(14+i, 1, 0, a, constant(3, 6)), "(" + name + " a:3 3:6)"}, pair{node(14+i, 1, 0, c, c), "(" + name + " c:1 c:1)"})
	}
	return l
}

func TestP2FormatTerm(t *testing.T) {
	for _, c := range termTexts() {
		if got := impl.FormatTerm(c.u); got != c.text {
			t.Errorf("FormatTerm(%s) = %q, want %q", dump(c.u), got, c.text)
		}
	}
	for _, u := range badTerms() {
		if got := impl.FormatTerm(u); got != "" {
			t.Errorf("FormatTerm(%.200s) = %.200q", dump(u), got)
		}
	}
}

func TestP2ParseTerm(t *testing.T) {
	for _, c := range termTexts() {
		if got, ok := impl.ParseTerm(c.text); !ok || !alike(got, c.u) {
			t.Errorf("ParseTerm(%q) = %s, %v", c.text, dump(got), ok)
		}
	}
	for _, u := range append(someTerms(2000), sized(3, 240), nots(239, variable(16, "abcdefgh")), nots(239, constant(1, 1)), stretches(80)) {
		text := impl.FormatTerm(u)
		if got, ok := impl.ParseTerm(text); text != textOf(u) || !ok || !alike(got, u) {
			t.Errorf("ParseTerm(%q) = %s, %v", text, dump(got), ok)
		}
	}
}

// stretches returns a term of 3n nodes whose text has as many words for them as there may be.
func stretches(n int) impl.Term {
	u := variable(16, "a")
	for range 3*n - 1 {
		u = node(impl.OpCut, 16, 0, u)
	}
	return u
}

func mustNotRead(t *testing.T, s string) {
	t.Helper()
	if u, ok := impl.ParseTerm(s); ok || !isZero(u) {
		t.Errorf("ParseTerm(%.200q) = %.200s, %v", s, dump(u), ok)
	}
}

func TestP2ParseTermFails(t *testing.T) {
	for _, s := range []string{
		"", " ", ")", "(", "()", "(())", "a", "3", ":", "a:", ":3", "3:", "a:3:1", "3:5:1", "3 5", "a 3", "a: 3", "a :3",
		" a:3", "a:3 ", "a:3\n", "\ta:3", "a:3 b:3", "(not a:3) ", " (not a:3)", "(not a:3) b:3", "(not a:3)(not a:3)", "(not a:3) (not a:3)", "(not a:3)x", "a:3)", "(a:3", "(a:3)", "((not a:3))",
		"( not a:3)", "(not  a:3)", "(not a:3 )", "(not\ta:3)", "(not\na:3)", "(nota:3)", "(add a:3  b:3)", "(add  a:3 b:3)", "(add a:3 b:3 )", "(add a:3b:3)", "(add a:3,b:3)", "(add a:3 (not b:3)))", "(add a:3 (not b:3)", "(add (not a:3)b:3)", "(add (not a:3 b:3))",
		"(not a:3", "not a:3)", "not a:3", "(not a:3))", "(not (not a:3)", "(not)", "(not )", "(not a:3 b:3)", "(add a:3)", "(add a:3 )", "(add a:3 b:3 c:3)", "(if c:1 a:3)", "(if c:1 a:3 b:3 d:3)", "(join a:3)", "(join a:3 b:3 c:3)", "(cut 0 1 a:3 b:3)", "(grow 4 a:3 b:3)",
		"03:5", "3:05", "+3:5", "3:+5", "3:-0", "-3:5", "3:-1", "0:0", "17:0", "3:8", "1:2", "16:65536", "3:00", "3:5a", "3:0x5", "3:99999999999999999999", "99999999999999999999:3", "3:9223372036854775807", "3:-9223372036854775808",
		"a:03", "a:+3", "a:-3", "a:0", "a:17", "a:3a", "a:99999999999999999999", "abcdefghi:3", "A:3", "aB:3", "1a:3", "a b:3", "a-b:3", "\xff:3", "a\xff:3", "a\x00:3", "\u00e9:3", "a:\u0663",
		"(cut 01 2 a:3)", "(cut 1 02 a:3)", "(cut +1 2 a:3)", "(cut -1 2 a:3)", "(cut -0 2 a:3)", "(cut 1 a:3)", "(cut a:3)", "(cut 1 2)", "(cut 1 2 3 a:3)", "(cut 2 2 a:3)", "(cut 3 1 a:3)", "(cut 0 4 a:3)", "(cut 0 0 a:3)", "(cut 1 -1 a:3)", "(cut x 2 a:3)", "(cut 1 y a:3)",
		"(cut 9223372036854775807 1 a:3)", "(cut 9223372036854775808 1 a:3)", "(grow 04 a:3)", "(grow +4 a:3)", "(grow a:3)", "(grow 2 a:3)", "(grow 17 a:3)", "(grow 0 a:3)", "(grow -4 a:3)", "(grow 4 4 a:3)", "(stretch 04 a:3)", "(stretch a:3)", "(stretch 2 a:3)", "(stretch 17 a:3)",
		"(nand a:3 b:3)", "(Add a:3 b:3)", "(ADD a:3 b:3)", "(const 3 5)", "(var a 3)", "(0 3 5)", "(3 a:3 b:3)", "(a:3 b:3 c:3)", "(ad a:3 b:3)", "(adds a:3 b:3)", "(- a:3)", "(ite c:1 a:3 b:3)", "( a:3 b:3)", "(: a:3)", "(concat a:3 b:3)", "(cut0 1 a:3)",
		"(add a:3 b:4)", "(add a:3 a:4)", "(sub 3:1 4:1)", "(eq a:3 b:4)", "(less 1:0 2:0)", "(if a:3 b:3 c:3)", "(if c:1 a:3 b:4)", "(if c:1 a:4 b:3)", "(join a:8 b:9)", "(join a:3 a:4)", "(add a:3 (cut 0 3 a:4))", "(not (add a:3 b:4))", "(not 3:8)", "(not A:3)",
		"(not a:3)\x00", "\xef\xbb\xbf(not a:3)", "[not a:3]", "(not a:3]", "{not a:3}", "(not\u00a0a:3)", "(add 3 :1 3:2)", "(add 3: 1 3:2)", "(grow 4 4:1",
	} {
		mustNotRead(t, s)
	}
	for _, u := range []impl.Term{sized(3, 241), nots(240, variable(3, "a")), nots(5000, constant(3, 1)), stretches(81), sized(3, 2000)} {
		mustNotRead(t, textOf(u))
	}
	for _, n := range []int{240, 241, 1000000} {
		for _, s := range []string{"(", "(not ", "(add ", "(if 1:1 ", "(cut 0 1 ", " ", ")", "a", "0", ":", "a:3 ", "3:"} {
			mustNotRead(t, strings.Repeat(s, n))
		}
		mustNotRead(t, "(not a:3"+strings.Repeat(")", n))
		mustNotRead(t, "3:"+strings.Repeat("0", n)+"5")
		mustNotRead(t, strings.Repeat("(not ", n)+"a:3"+strings.Repeat(")", n))
	}
}

// TestP2ParseTermOfAlmostTexts changes texts at one place: what is read then is a term whose text it is.
func TestP2ParseTermOfAlmostTexts(t *testing.T) {
	check := func(s string) {
		u, ok := impl.ParseTerm(s)
		if !ok && !isZero(u) {
			t.Errorf("ParseTerm(%q) = %s, false", s, dump(u))
		}
		if ok && (!impl.TermOk(u) || textOf(u) != s) {
			t.Errorf("ParseTerm(%q) = %s", s, dump(u))
		}
	}
	others := 0
	for _, c := range termTexts() {
		for _, s := range almostTexts(c.text, " ()0159:-+ax\x00\n\xff") {
			check(s)
			if _, ok := impl.ParseTerm(s); ok && s != c.text {
				others++
			}
		}
	}
	if others == 0 {
		t.Error("the test meets no other text of a term")
	}
	for _, s := range oddTexts() {
		check(s)
		check("(add " + s + " a:3)")
		check(s + ":3")
		check("3:" + s)
	}
}

// TestP2TermNamesInTextsOnly checks that the operations of chapter 2 stay the only ones with an OpName.
func TestP2TermNamesInTextsOnly(t *testing.T) {
	for op := 17; op <= 23; op++ {
		if got := impl.OpName(op); got != "" {
			t.Errorf("OpName(%d) = %q", op, got)
		}
	}
	for _, name := range []string{"if", "join", "cut", "grow", "stretch", "const", "var"} {
		if got := impl.OpOf(name); got != 0 {
			t.Errorf("OpOf(%q) = %d", name, got)
		}
	}
	for w := 1; w <= 16; w++ {
		text := "(grow 16 v" + strconv.Itoa(w) + ":" + strconv.Itoa(w) + ")"
		if got := impl.FormatTerm(node(impl.OpGrow, 16, 0, variable(w, "v"+strconv.Itoa(w)))); got != text {
			t.Errorf("FormatTerm = %q, want %q", got, text)
		}
	}
}
