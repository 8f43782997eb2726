package tests

import (
	"math"
	"slices"
	"strings"
	"testing"

	"loop.example/g03219/impl"
)

// intTexts pairs ints with the only texts that stand for them.
var intTexts = []struct {
	n    int
	text string
}{
	{0, "0"},
	{1, "1"},
	{-1, "-1"},
	{7, "7"},
	{10, "10"},
	{-10, "-10"},
	{100, "100"},
	{65535, "65535"},
	{-90210, "-90210"},
	{math.MaxInt - 1, "9223372036854775806"},
	{math.MaxInt, "9223372036854775807"},
	{math.MinInt + 1, "-9223372036854775807"},
	{math.MinInt, "-9223372036854775808"},
}

// noInts are texts for which FormatInt has no int.
var noInts = []string{
	"", " ", "-", "+", "+1", "-0", "+0", "00", "007", "-007", "01", "--1", "- 1", " 1", "1 ", "1\n", "\t1",
	"1.0", "1e3", "0x10", "0b1", "0o7", "1_000", "a", "1a", "a1", "1,2", "1-",
	"9223372036854775808", "-9223372036854775809", "18446744073709551616", "99999999999999999999999999",
	"-99999999999999999999999999", "\x00", "1\x00", "\xff", "\xd9\xa1", "\u0661", "\uff11", "\u22121",
}

func TestP2FormatInt(t *testing.T) {
	for _, c := range intTexts {
		if got := impl.FormatInt(c.n); got != c.text {
			t.Errorf("FormatInt(%d) = %q, want %q", c.n, got, c.text)
		}
	}
}

func TestP2ParseInt(t *testing.T) {
	for _, c := range intTexts {
		if n, ok := impl.ParseInt(c.text); n != c.n || !ok {
			t.Errorf("ParseInt(%q) = %d, %v, want %d, true", c.text, n, ok, c.n)
		}
	}
	for n := -1100; n <= 1100; n++ {
		if back, ok := impl.ParseInt(impl.FormatInt(n)); back != n || !ok {
			t.Errorf("ParseInt of FormatInt(%d) = %d, %v", n, back, ok)
		}
	}
}

func TestP2ParseIntFails(t *testing.T) {
	for _, s := range append(noInts, strings.Repeat("9", 1000), strings.Repeat("0", 1000)) {
		if n, ok := impl.ParseInt(s); n != 0 || ok {
			t.Errorf("ParseInt(%q) = %d, %v, want 0, false", s, n, ok)
		}
	}
}

func TestP2Words(t *testing.T) {
	cases := []struct {
		s    string
		want []string
	}{
		{"", nil},
		{" ", nil},
		{"    ", nil},
		{"a", []string{"a"}},
		{"a b", []string{"a", "b"}},
		{"  set  r0   5 ", []string{"set", "r0", "5"}},
		{"a a a", []string{"a", "a", "a"}},
		{"a\tb\nc d", []string{"a\tb\nc", "d"}},
		{"\n \t", []string{"\n", "\t"}},
		{"a\u00a0b\u2003c", []string{"a\u00a0b\u2003c"}},
		{"\xff \x00\x80 \xc3", []string{"\xff", "\x00\x80", "\xc3"}},
		{"\xc3 \xa9", []string{"\xc3", "\xa9"}},
		{"\u00e9 \u20ac", []string{"\u00e9", "\u20ac"}},
	}
	for _, c := range cases {
		if got := impl.Words(c.s); !slices.Equal(got, c.want) {
			t.Errorf("Words(%q) = %q, want %q", c.s, got, c.want)
		}
	}
}

func TestP2SplitLines(t *testing.T) {
	cases := []struct {
		s    string
		want []string
	}{
		{"", nil},
		{"\n", []string{""}},
		{"\n\n", []string{"", ""}},
		{"a", []string{"a"}},
		{"a\n", []string{"a"}},
		{"a\nb", []string{"a", "b"}},
		{"a\nb\n", []string{"a", "b"}},
		{"a\n\nb", []string{"a", "", "b"}},
		{"\na", []string{"", "a"}},
		{"a\n\n", []string{"a", ""}},
		{"a\n ", []string{"a", " "}},
		{"a\r\nb\r", []string{"a\r", "b\r"}},
		{"\xff\n\x00\u2028b\vc\f", []string{"\xff", "\x00\u2028b\vc\f"}},
	}
	for _, c := range cases {
		if got := impl.SplitLines(c.s); !slices.Equal(got, c.want) {
			t.Errorf("SplitLines(%q) = %q, want %q", c.s, got, c.want)
		}
	}
}

func TestP2Join(t *testing.T) {
	cases := []struct {
		l    []string
		by   string
		want string
	}{
		{nil, ", ", ""},
		{[]string{}, ", ", ""},
		{[]string{""}, ", ", ""},
		{[]string{"a"}, ", ", "a"},
		{[]string{"a", "b", "c"}, ", ", "a, b, c"},
		{[]string{"a", "b", "c"}, "", "abc"},
		{[]string{"", "", ""}, "|", "||"},
		{[]string{"", "a", ""}, "--", "--a--"},
		{[]string{"|", "|"}, "|", "|||"},
		{[]string{"\xff", "\x00"}, "\xc3", "\xff\xc3\x00"},
	}
	for _, c := range cases {
		if got := impl.Join(c.l, c.by); got != c.want {
			t.Errorf("Join(%q, %q) = %q, want %q", c.l, c.by, got, c.want)
		}
	}
}

// intLists pairs lists with the only texts that stand for them.
var intLists = []struct {
	l    []int
	text string
}{
	{nil, ""},
	{[]int{}, ""},
	{[]int{0}, "0"},
	{[]int{0, 0}, "0 0"},
	{[]int{5}, "5"},
	{[]int{1, 2, 3}, "1 2 3"},
	{[]int{-1, 0, -25, 10}, "-1 0 -25 10"},
	{[]int{math.MinInt, math.MaxInt}, "-9223372036854775808 9223372036854775807"},
}

func TestP2FormatInts(t *testing.T) {
	for _, c := range intLists {
		if got := impl.FormatInts(c.l); got != c.text {
			t.Errorf("FormatInts(%v) = %q, want %q", c.l, got, c.text)
		}
	}
}

func TestP2ParseInts(t *testing.T) {
	for _, c := range intLists {
		if l, ok := impl.ParseInts(c.text); !slices.Equal(l, c.l) || !ok {
			t.Errorf("ParseInts(%q) = %v, %v, want %v, true", c.text, l, ok, c.l)
		}
	}
}

func TestP2ParseIntsFails(t *testing.T) {
	texts := []string{
		" ", "  ", " 1", "1 ", "1  2", "1 2 ", " 1 2", "1 2  3", "1\t2", "1\n2", "1\n", "1,2", "1 x", "x 1",
		"1 +2", "1 -0", "1 02", "1 - 2", "1 9223372036854775808", "-9223372036854775809 1", "1 \xff", "1\u00a02",
	}
	for _, s := range texts {
		if l, ok := impl.ParseInts(s); len(l) != 0 || ok {
			t.Errorf("ParseInts(%q) = %v, %v, want none, false", s, l, ok)
		}
	}
	for _, s := range noInts {
		if s == "" {
			continue // the text of the empty list
		}
		if l, ok := impl.ParseInts("3 " + s + " 4"); len(l) != 0 || ok {
			t.Errorf("ParseInts of %q among integers = %v, %v, want none, false", s, l, ok)
		}
	}
}

func TestP2IsName(t *testing.T) {
	names := []string{"a", "z", "m", "ab", "a0", "z9", "x123", "r0", "i2", "abcdefg", "abcdefgh", "a1234567", "zzzzzzzz", "a9z0"}
	for _, s := range names {
		if !impl.IsName(s) {
			t.Errorf("IsName(%q) = false", s)
		}
	}
	others := []string{
		"", "0", "9", "0a", "1abc", "A", "aB", "Z", "abC", "abcdefghi", "a12345678", "abcdefgh ", strings.Repeat("a", 1000),
		" ", " a", "a ", "a b", "a_b", "_", "_a", "a-b", "-", "a.", "a\n", "a\x00", "\x00", "\xff", "a\xff", "\xe1", "a\xc3\xa9",
		"\u00e9", "a\u00e9", "a\u0661", "\uff41", "a\uff11", "a`", "`", "a{", "{", "a/", "a:", "@", "[",
	}
	for _, s := range others {
		if impl.IsName(s) {
			t.Errorf("IsName(%q) = true", s)
		}
	}
}

func TestP2IsNameOfAllBytes(t *testing.T) {
	for b := range 256 {
		s := string([]byte{byte(b)})
		letter := strings.Contains("abcdefghijklmnopqrstuvwxyz", s)
		digit := strings.Contains("0123456789", s)
		if got := impl.IsName(s); got != letter {
			t.Errorf("IsName(%q) = %v", s, got)
		}
		for _, name := range []string{"q" + s, "q" + s + "q", "qqqqqqq" + s} {
			if got := impl.IsName(name); got != (letter || digit) {
				t.Errorf("IsName(%q) = %v", name, got)
			}
		}
		if impl.IsName("qqqqqqqq" + s) {
			t.Errorf("IsName of 9 bytes ending with %q = true", s)
		}
	}
}
