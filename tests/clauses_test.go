package tests

import (
	"math"
	"slices"
	"strings"
	"testing"

	"loop.example/g03219/impl"
)

func TestP2ConstantsOfClauses(t *testing.T) {
	got := []int{impl.MaxBools, impl.MaxClauses, impl.MaxSplits, impl.SatYes, impl.SatNo, impl.SatOpen}
	if !slices.Equal(got, []int{400, 1600, 3000, 1, 2, 3}) {
		t.Errorf("the constants are %v", got)
	}
}

func TestP2FormulaOk(t *testing.T) {
	var all []int
	for v := 1; v <= 400; v++ {
		all = append(all, v*(1-v%2*2))
	}
	for _, f := range []impl.Formula{
		{}, {Clauses: [][]int{}}, {Clauses: [][]int{nil}}, {Clauses: [][]int{{}, {}}}, {Vars: 400}, {Vars: 3, Clauses: [][]int{{}}}, {Vars: 1, Clauses: [][]int{{1}, {-1}, {1}}},
		{Vars: 3, Clauses: [][]int{{1, 2, 3}, {-1, 2, -3}, {3}, {-3}, {1, -3}}}, {Vars: 400, Clauses: [][]int{{400}, {-400}, {-1, 400}, {1, -400}}},
		{Vars: 2, Clauses: make([][]int, 1600)}, {Vars: 400, Clauses: [][]int{all}},
	} {
		if !impl.FormulaOk(f) {
			t.Errorf("FormulaOk(%.200s) = false", textOfFormula(f))
		}
	}
	for _, f := range badFormulas() {
		if impl.FormulaOk(f) {
			t.Errorf("FormulaOk(%.200s) = true", textOfFormula(f))
		}
	}
	for _, f := range someFormulas(300) {
		if !impl.FormulaOk(f) {
			t.Errorf("FormulaOk(%s) = false", textOfFormula(f))
		}
	}
}

func TestP2MakeClause(t *testing.T) {
	for _, c := range []struct{ l, want []int }{
		{nil, nil}, {[]int{}, nil}, {[]int{1}, []int{1}}, {[]int{-1}, []int{-1}}, {[]int{3, 1, 2}, []int{1, 2, 3}}, {[]int{-3, 2, -1}, []int{-1, 2, -3}},
		{[]int{1, -2}, []int{1, -2}}, {[]int{-2, 1}, []int{1, -2}}, {[]int{2, 2}, []int{2}}, {[]int{-2, -2, -2}, []int{-2}}, {[]int{3, -1, 3, 2, -1, 3}, []int{-1, 2, 3}},
		{[]int{400, -399}, []int{-399, 400}}, {[]int{-400, 399, -400}, []int{399, -400}}, {[]int{10, 9, -8, 100}, []int{-8, 9, 10, 100}},
	} {
		if got, ok := impl.MakeClause(c.l); !ok || !slices.Equal(got, c.want) {
			t.Errorf("MakeClause(%v) = %v, %v, want %v", c.l, got, ok, c.want)
		}
	}
	for _, l := range [][]int{
		{0}, {1, 0}, {0, 0}, {401}, {-401}, {1, 401}, {-401, 2}, {math.MinInt}, {math.MinInt, math.MinInt}, {math.MaxInt}, {math.MinInt + 1}, {1, math.MinInt}, {math.MaxInt, -math.MaxInt},
		{1, -1}, {-1, 1}, {2, 1, -2}, {-2, 1, 2}, {1, 1, -1}, {3, 2, 1, -3, 2, 1}, {400, -400}, {1, 2, 3, 4, 5, 6, 7, 8, 9, 10, 11, 12, 13, -1},
	} {
		if got, ok := impl.MakeClause(l); ok || len(got) != 0 {
			t.Errorf("MakeClause(%v) = %v, %v", l, got, ok)
		}
	}
}

// TestP2MakeClauseOfAny compares with a clause that is gathered variable by variable.
func TestP2MakeClauseOfAny(t *testing.T) {
	m := maker{state: 3}
	for range 3000 {
		vars := 1 + m.below(30)
		var l, want []int
		for range m.below(12) {
			l = append(l, m.literal(vars))
		}
		clash := false
		for v := 1; v <= vars; v++ {
			yes, no := slices.Contains(l, v), slices.Contains(l, -v)
			clash = clash || yes && no
			if yes {
				want = append(want, v)
			} else if no {
				want = append(want, -v)
			}
		}
		if clash {
			want = nil
		}
		if got, ok := impl.MakeClause(l); ok == clash || !slices.Equal(got, want) {
			t.Errorf("MakeClause(%v) = %v, %v, want %v", l, got, ok, want)
		}
	}
	var long []int
	for i := range 5000 {
		long = append(long, 400-i%400)
	}
	if got, ok := impl.MakeClause(long); !ok || len(got) != 400 || got[0] != 1 || got[399] != 400 {
		t.Errorf("MakeClause of 5000 numbers = %v, %v", got, ok)
	}
	if got, ok := impl.MakeClause(append(long, -200)); ok || len(got) != 0 {
		t.Errorf("MakeClause of 5000 numbers and an opposite one = %v, %v", got, ok)
	}
}

func TestP2EvalFormula(t *testing.T) {
	for _, c := range []struct {
		text string
		m    []bool
		want bool
	}{
		{"0", nil, true}, {"0", []bool{}, true}, {"0|", nil, false}, {"2", []bool{false, true}, true}, {"2|", []bool{false, true}, false}, {"2|1 2", []bool{false, true}, true}, {"2|1 2", []bool{false, false}, false},
		{"2|1 -2", []bool{false, false}, true}, {"2|1 -2", []bool{false, true}, false}, {"2|-1|2", []bool{false, true}, true}, {"2|-1|2", []bool{true, true}, false}, {"2|-1|2", []bool{false, false}, false}, {"2|2|-1", []bool{false, false}, false},
		{"2|1|", []bool{true, true}, false}, {"3|1 -3|2|-1 3", []bool{true, true, true}, true}, {"3|1 -3|2|-1 3", []bool{true, true, false}, false},
		// Other lengths.
		{"0", []bool{true}, false}, {"2", nil, false}, {"2", []bool{true}, false}, {"2", []bool{true, true, true}, false}, {"2|1", []bool{true}, false}, {"2|1", []bool{true, true, false}, false}, {"3|1", []bool{true, true}, false},
	} {
		if got := impl.EvalFormula(readFormula(t, c.text), c.m); got != c.want {
			t.Errorf("EvalFormula(%q, %v) = %v", c.text, c.m, got)
		}
	}
	for _, f := range badFormulas() {
		for _, m := range [][]bool{nil, {true}, {true, true}, {true, true, true}, make([]bool, 401)} {
			if impl.EvalFormula(f, m) {
				t.Errorf("EvalFormula(%.200s, %v) = true", textOfFormula(f), m)
			}
		}
	}
}

func TestP2ModelsOfFormulas(t *testing.T) {
	for _, f := range someFormulas(1500) {
		models := modelsWith(f, nil)
		if got := impl.CountModels(f); got != len(models) {
			t.Errorf("CountModels(%s) = %d, want %d", textOfFormula(f), got, len(models))
		}
		for _, m := range assignments(f.Vars) {
			want := slices.ContainsFunc(models, func(o []bool) bool { return slices.Equal(m, o) })
			if got := impl.EvalFormula(f, m); got != want {
				t.Errorf("EvalFormula(%s, %s) = %v", textOfFormula(f), textOfModel(m), got)
			}
		}
	}
}

func TestP2CountModels(t *testing.T) {
	for _, c := range []struct {
		text string
		want int
	}{
		{"0", 1}, {"0|", 0}, {"1", 2}, {"1|1", 1}, {"1|-1", 1}, {"1|1|-1", 0}, {"3", 8}, {"3|", 0}, {"3|1 2 3", 7}, {"3|1 2 3|1 2 3", 7}, {"3|-1|2", 2}, {"2|1 2|-1 2|1 -2|-1 -2", 0}, {"2|1 -2|-1 2", 2},
		{"12", 4096}, {"12|12", 2048}, {"12|1 12", 3072}, {"12|-12|1|", 0}, {"12|1|2|3|4|5|6|7|8|9|10|11|12", 1}, {"11|11", 1024},
		{"13", -1}, {"13|", -1}, {"13|1|-1", -1}, {"14", -1}, {"400", -1},
	} {
		if got := impl.CountModels(readFormula(t, c.text)); got != c.want {
			t.Errorf("CountModels(%q) = %d, want %d", c.text, got, c.want)
		}
	}
	for _, f := range badFormulas() {
		if got := impl.CountModels(f); got != -1 {
			t.Errorf("CountModels(%.200s) = %d", textOfFormula(f), got)
		}
	}
}

// formulaTexts pairs formulas with the only texts that stand for them.
func formulaTexts() []struct {
	f    impl.Formula
	text string
} {
	return []struct {
		f    impl.Formula
		text string
	}{
		{impl.Formula{}, "0"}, {impl.Formula{Clauses: [][]int{{}}}, "0|"}, {impl.Formula{Clauses: [][]int{{}, {}}}, "0||"}, {impl.Formula{Vars: 400}, "400"}, {impl.Formula{Vars: 7}, "7"},
		{impl.Formula{Vars: 2, Clauses: [][]int{{1, 2}, {-1, 2}, {1, -2}, {-1, -2}}}, "2|1 2|-1 2|1 -2|-1 -2"}, {impl.Formula{Vars: 3, Clauses: [][]int{{1}, {}, {-3}}}, "3|1||-3"},
		{impl.Formula{Vars: 3, Clauses: [][]int{{}, {1}}}, "3||1"}, {impl.Formula{Vars: 3, Clauses: [][]int{{1}, {}}}, "3|1|"}, {impl.Formula{Vars: 2, Clauses: [][]int{{2}, {2}, {1}}}, "2|2|2|1"},
		{impl.Formula{Vars: 400, Clauses: [][]int{{-1, 20, -300, 400}, {-400}}}, "400|-1 20 -300 400|-400"}, {impl.Formula{Vars: 12, Clauses: [][]int{{9, 10, 11, -12}}}, "12|9 10 11 -12"},
	}
}

func TestP2FormulaTexts(t *testing.T) {
	check := func(f impl.Formula, text string) {
		if got := impl.FormatFormula(f); got != text {
			t.Errorf("FormatFormula = %.200q, want %.200q", got, text)
		}
		if got, ok := impl.ParseFormula(text); !ok || !alikeFormulas(got, f) {
			t.Errorf("ParseFormula(%.200q) = %.200s, %v", text, textOfFormula(got), ok)
		}
	}
	for _, c := range formulaTexts() {
		check(c.f, c.text)
	}
	for _, f := range append(someFormulas(1000), pigeons(5)) {
		check(f, textOfFormula(f))
	}
	m := maker{state: 8}
	full := impl.Formula{Vars: 400}
	for range 1600 {
		full.Clauses = append(full.Clauses, m.clause(400, 50))
	}
	check(full, textOfFormula(full))
	for _, f := range badFormulas() {
		if got := impl.FormatFormula(f); got != "" {
			t.Errorf("FormatFormula(%.200s) = %.200q", textOfFormula(f), got)
		}
	}
}

func mustNotReadFormula(t *testing.T, s string) {
	t.Helper()
	if f, ok := impl.ParseFormula(s); ok || f.Vars != 0 || len(f.Clauses) != 0 {
		t.Errorf("ParseFormula(%.200q) = %.200s, %v", s, textOfFormula(f), ok)
	}
}

func TestP2ParseFormulaFails(t *testing.T) {
	for _, s := range []string{
		"", " ", "|", "||", "|1", " 2", "2 ", "2 |1", "2| 1", "2|1 ", "2|1 |2", "2|1| 2", "2|1 | 2", "2|1  2", "2| ", "2| |1", "2|1 2 ", "2|  1", "2\n", "2|1\n", "2|1\n|2", "\n2|1", "2|1\t2", "2 |", "2|1 2| ",
		"02", "+2", "-0", "00", "2|01", "2|1 02", "2|+1", "2|1 +2", "2|-01", "2|--1", "2|- 1", "2|-", "2|1-", "2|1-2", "2|-+1", "2|1 -0", "2|0x1", "2|1.0", "2|1e0", "2|1_0", "12|1_1",
		"2|2 1", "2|-2 1", "2|2 -1", "3|1 3 2", "3|3 1 2", "2|1 1", "2|-1 -1", "2|1 -1", "2|-1 1", "3|1 2|3 2", "3|1 2|2 3|2 1",
		"2|0", "2|1 0", "2|0 1", "0|0", "0|1", "2|3", "2|-3", "2|1 3", "2|1 2|4", "1|2", "-1", "-1|", "-2|1", "401", "401|1", "400|401", "400|-401", "1000", "9223372036854775807", "9223372036854775808", "-9223372036854775808", "99999999999999999999",
		"2|9223372036854775807", "2|-9223372036854775808", "2|-9223372036854775809", "2|99999999999999999999", "2|18446744073709551617",
		"a", "a|1", "2|a", "2|1 a", "2|1|a", "2|1,2", "2|1;2", "2;1", "2,1", "2 1", "2 1 2", "2/1", "2|1|2x", "2|1 2|-1 2.", "2|1|2\x00", "2|1|2 |", "2|1|2\n", "2|1|2 #", "2x", "x2", "\xff", "2|\xff", "2|1\xff", "2\u00a6", "2|\u0661", "2|\u22121", "(2|1)", "[2]", "2|[1]",
	} {
		mustNotReadFormula(t, s)
	}
	for _, f := range badFormulas() {
		mustNotReadFormula(t, textOfFormula(f))
	}
	mustNotReadFormula(t, "2"+strings.Repeat("|", 1601))
	mustNotReadFormula(t, "2"+strings.Repeat("|1", 100000))
	mustNotReadFormula(t, "400|1"+strings.Repeat(" 1", 100000))
	for _, s := range []string{" ", "|", "0", "1", "-", "1 ", "1|"} {
		mustNotReadFormula(t, strings.Repeat(s, 100000))
	}
	if f, ok := impl.ParseFormula("2" + strings.Repeat("|", 1600)); !ok || f.Vars != 2 || len(f.Clauses) != 1600 {
		t.Errorf("ParseFormula of 1600 empty clauses = %.200s, %v", textOfFormula(f), ok)
	}
}

// TestP2ParseFormulaOfAlmostTexts changes texts at one place: what is read then is a formula whose text it is.
func TestP2ParseFormulaOfAlmostTexts(t *testing.T) {
	others := 0
	check := func(s string) {
		f, ok := impl.ParseFormula(s)
		if !ok && (f.Vars != 0 || len(f.Clauses) != 0) {
			t.Errorf("ParseFormula(%q) = %s, false", s, textOfFormula(f))
		}
		if ok && (!impl.FormulaOk(f) || textOfFormula(f) != s || impl.FormatFormula(f) != s) {
			t.Errorf("ParseFormula(%q) = %s", s, textOfFormula(f))
		}
	}
	for _, c := range formulaTexts() {
		for _, s := range almostTexts(c.text, " |0129-+x\x00\n\xff") {
			check(s)
			if _, ok := impl.ParseFormula(s); ok && s != c.text {
				others++
			}
		}
	}
	if others == 0 {
		t.Error("the test meets no other text of a formula")
	}
	for _, s := range oddTexts() {
		check(s)
		check("9|" + s)
		check(s + "|1")
		check("9|1 2|" + s + "|3")
	}
}
