package tests

import (
	"math"
	"slices"
	"strconv"
	"strings"
	"testing"

	"loop.example/g03219/impl"
)

func TestP10SessionOk(t *testing.T) {
	p := readProgram(t, sumProgram)
	many := slices.Repeat([][]int{{1}}, 66)
	for _, c := range []struct {
		fuel  int
		tests [][]int
		want  bool
	}{
		{20, nil, true}, {1, nil, true}, {60, nil, true}, {0, nil, false}, {61, nil, false}, {-1, nil, false}, {400, nil, false}, {math.MinInt, nil, false}, {math.MaxInt, nil, false}, {1 << 32, nil, false},
		{20, [][]int{{4}}, true}, {20, [][]int{{4}, {4}, {0}}, true}, {20, many[:63], true}, {20, many[:64], true}, {20, many[:65], false}, {20, many, false}, {1, many[:64], true},
		{20, [][]int{{8}}, false}, {20, [][]int{{4}, nil}, false}, {20, [][]int{{4}, {1, 2}, {4}}, false}, {20, [][]int{{-1}, {4}}, false}, {20, append(slices.Clone(many[:63]), []int{8}), false}, {20, append(slices.Clone(many[:63]), []int{7}), true},
	} {
		s := impl.Session{Program: p, Fuel: c.fuel, Tests: c.tests}
		if got := impl.SessionOk(s); got != c.want {
			t.Errorf("SessionOk of %s = %v", textOfSession(s), got)
		}
	}
	for _, s := range badSessions(t) {
		if impl.SessionOk(s) {
			t.Errorf("SessionOk of %s is true", textOfSession(s))
		}
	}
	for _, p := range []string{"2 1 0|halt", "8 6 3|in r0", "4 1 1|halt"} {
		if s := sessionOf(t, p, 20, ""); !impl.SessionOk(s) {
			t.Errorf("SessionOk of %s is false", textOfSession(s))
		}
	}
	if s := (impl.Session{Program: readProgram(t, "2 1 0|halt"), Fuel: 20, Tests: [][]int{nil, {}}}); !impl.SessionOk(s) {
		t.Error("SessionOk of a session with tests without inputs is false")
	}
}

func TestP10NewSession(t *testing.T) {
	s := impl.NewSession()
	if got := textOfSession(s); got != "machine 4 1 1|halt|; 20; " || !impl.SessionOk(s) || len(s.Tests) != 0 {
		t.Errorf("NewSession = %s", got)
	}
}

// mustAnswer checks the output of a line, and the session afterwards, which it returns.
func mustAnswer(t *testing.T, s impl.Session, line, want, session string) impl.Session {
	t.Helper()
	after, out, ok := impl.RunLine(s, line)
	if !ok || out != want || textOfSession(after) != session {
		t.Errorf("RunLine of %s, %q = %s, %q, %v, want %s, %q", textOfSession(s), line, textOfSession(after), out, ok, session, want)
	}
	return after
}

// A dialog has lines and their outputs: those of lines that do not change the session.
type dialog []struct{ line, want string }

func checkDialog(t *testing.T, s impl.Session, lines dialog) {
	t.Helper()
	for _, c := range lines {
		mustAnswer(t, s, c.line, c.want, textOfSession(s))
	}
}

func TestP10EmptyLines(t *testing.T) {
	checkDialog(t, sessionOf(t, sumProgram, 20, "4, 0"), dialog{
		// Without words.
		{"", ""}, {" ", ""}, {"     ", ""},
		// Comments.
		{"#", ""}, {"# ", ""}, {"#show", ""}, {"# show", ""}, {"  # show", ""}, {"   #show it", ""}, {"##", ""}, {"#load machine 2 1 0|halt|", ""}, {"# fuel 5", ""}, {" #fuel 5", ""}, {"#\xff", ""},
		// Other first words.
		{"x", "unknown command"}, {"x #", "unknown command"}, {"Show", "unknown command"}, {"SHOW", "unknown command"}, {"shows", "unknown command"}, {"sho", "unknown command"}, {"load: x", "unknown command"}, {"loads machine 2 1 0|halt|", "unknown command"}, {"fuel=5", "unknown command"}, {"5", "unknown command"}, {"none", "unknown command"}, {"help", "unknown command"}, {"machine 2 1 0|halt|", "unknown command"}, {"x fuel 5", "unknown command"}, {" x", "unknown command"}, {"f uel 5", "unknown command"},
		{"\t", "unknown command"}, {"\n", "unknown command"}, {"\tshow", "unknown command"}, {"show\t", "unknown command"}, {"show\n", "unknown command"}, {"show\r", "unknown command"}, {"\xff", "unknown command"}, {"\x00", "unknown command"}, {"show\x00", "unknown command"}, {"\n#", "unknown command"}, {"\xa0#", "unknown command"}, {"fuel\t5", "unknown command"}, {"\u00a0", "unknown command"},
	})
}

// TestP10WholeLines has lines that are said to be whole, with something ahead of the word or behind it.
func TestP10WholeLines(t *testing.T) {
	s := sessionOf(t, sumProgram, 20, "4, 0, 5")
	for _, word := range wholeLines {
		for _, line := range []string{word + " ", " " + word, "  " + word, word + " x", word + " 1", word + "  ", word + " " + word, word + " #"} {
			mustAnswer(t, s, line, "unknown command", textOfSession(s))
		}
		if _, out, _ := impl.RunLine(s, word); out == "unknown command" || out == "none" {
			t.Errorf("RunLine of %q gives %q", word, out)
		}
	}
}

func TestP10Load(t *testing.T) {
	s := sessionOf(t, echo3, 33, "4, 0")
	for _, c := range []struct{ line, want string }{
		{"load machine 2 1 0|halt|", "machine 2 1 0|halt|; 33; "}, {"load machine 3 2 1|in r0|set r1 3|add r0 r1|zero r0 6|out r0|halt|check r0|", "machine 3 2 1|in r0|set r1 3|add r0 r1|zero r0 6|out r0|halt|check r0|; 33; "}, {"load machine 3 1 1|in r0|out r0|halt|", "machine 3 1 1|in r0|out r0|halt|; 33; "}, {"load machine 8 6 3|ret|", "machine 8 6 3|ret|; 33; "},
		// A newline is a newline already.
		{"load machine 2 1 0\nhalt\n", "machine 2 1 0|halt|; 33; "}, {"load machine 2 1 0\nhalt|", "machine 2 1 0|halt|; 33; "},
	} {
		mustAnswer(t, s, c.line, "ok", c.want)
	}
	for _, line := range []string{
		"load", "load ", "load |", "load x", "load machine 2 1 0|halt", "load machine 2 1 0", "load machine 2 1 0|", "load  machine 2 1 0|halt|", " load machine 2 1 0|halt|", "load machine 2 1 0|halt| ", "load machine 2 1 0|halt||", "load |machine 2 1 0|halt|", "load machine 2 1 0||halt|", "load machine 2 1 0 |halt|", "load machine 2 1 0| halt|",
		"load machine 2 1 0;halt;", "load machine 2 1 0|Halt|", "load machine 2 1 0|stop|", "load machine 9 1 0|halt|", "load machine 1 1 0|halt|", "load machine 2 4 0|halt|", "load machine 2 0 0|halt|", "load machine 2 1 4|halt|", "load machine 2 1 0|jump 2|", "load machine 2 1 0|set r4 0|", "load machine 2 1 0|set r0 4|", "load machine 02 1 0|halt|", "load machine 2 1|halt|", "load 2 1 0|halt|", "load machine 2 1 0|" + strings.Repeat("halt|", 41), "load machine 2 1 0|halt\r|",
	} {
		mustAnswer(t, s, line, "none", textOfSession(s))
	}
	long := "machine 2 1 0|" + strings.Repeat("halt|", 40)
	mustAnswer(t, s, "load "+long, "ok", long+"; 33; ")
}

func TestP10Fuel(t *testing.T) {
	s := sessionOf(t, echo3, 33, "4, 0")
	for _, n := range []int{1, 2, 20, 33, 59, 60} {
		mustAnswer(t, s, "fuel "+strconv.Itoa(n), "ok", "machine 3 1 1|in r0|out r0|halt|; "+strconv.Itoa(n)+"; 4, 0")
	}
	for _, text := range []string{
		"fuel", "fuel ", "fuel 0", "fuel 61", "fuel 400", "fuel -1", "fuel -5", "fuel 5 6", "fuel 5 5", "fuel 5 ", "fuel  5", " fuel 5", "fuel 05", "fuel +5", "fuel 5.", "fuel x", "fuel five", "fuel 5x", "fuel 5,6", "fuel 5\n", "fuel -0", "fuel 9223372036854775807", "fuel 9223372036854775808", "fuel -9223372036854775808", "fuel 4294967301", "fuel 18446744073709551621", "fuel #",
	} {
		mustAnswer(t, s, text, "none", textOfSession(s))
	}
}

func TestP10Test(t *testing.T) {
	for _, c := range []struct{ program, tests, line, want string }{
		{echo3, "", "test 3", "3"}, {echo3, "4, 0", "test 7", "4, 0, 7"}, {echo3, "4, 0", "test 4", "4, 0, 4"}, {echo3, "4", "test 0", "4, 0"}, {second, "", "test 1 2", "1 2"}, {"8 1 3|halt", "1 2 3", "test 255 0 255", "1 2 3, 255 0 255"},
		{echo3, "4", "test", ""}, {echo3, "4", "test ", ""}, {echo3, "4", "test 8", ""}, {echo3, "4", "test -1", ""}, {echo3, "4", "test 3 4", ""}, {second, "1 2", "test 1", ""}, {second, "1 2", "test 1 2 3", ""}, {second, "1 2", "test 1 8", ""}, {echo3, "4", "test 03", ""}, {echo3, "4", "test  3", ""}, {echo3, "4", " test 3", ""}, {echo3, "4", "test 3 ", ""}, {echo3, "4", "test x", ""}, {second, "1 2", "test 1  2", ""}, {second, "1 2", "test 1,2", ""}, {second, "1 2", "test 1 x", ""}, {echo3, "4", "test 9223372036854775808", ""},
	} {
		s := sessionOf(t, c.program, 20, c.tests)
		if c.want == "" {
			mustAnswer(t, s, c.line, "none", textOfSession(s))
			continue
		}
		mustAnswer(t, s, c.line, "ok", shown(s.Program)+"; 20; "+c.want)
	}
	none := sessionOf(t, "2 1 0|halt", 20, "")
	for _, line := range []string{"test", "test "} {
		if after, out, ok := impl.RunLine(none, line); out != "ok" || !ok || len(after.Tests) != 1 || len(after.Tests[0]) != 0 {
			t.Errorf("RunLine of %q without inputs = %s, %q, %v", line, textOfSession(after), out, ok)
		}
	}
	for _, line := range []string{"test 0", "test x", " test", "test  "} {
		mustAnswer(t, none, line, "none", textOfSession(none))
	}
}

func TestP10TestMany(t *testing.T) {
	s := sessionOf(t, echo3, 20, "")
	for n := range 70 {
		after, out, ok := impl.RunLine(s, "test "+strconv.Itoa(n%8))
		want := "ok"
		if n >= 64 {
			want = "none"
		}
		if out != want || !ok || len(after.Tests) != min(n+1, 64) || !impl.SessionOk(after) {
			t.Errorf("the test after %d others gives %q, and %d tests", n, out, len(after.Tests))
		}
		s = after
	}
}

func TestP10Run(t *testing.T) {
	for _, c := range []struct {
		program string
		fuel    int
		lines   dialog
	}{
		{sumProgram, 20, dialog{{"run 4", "halted 7"}, {"run 0", "halted 3"}, {"run 7", "halted 2"}, {"run 5", "check"}, {"run", "none"}, {"run ", "none"}, {"run 8", "none"}, {"run -1", "none"}, {"run 1 2", "none"}, {"run x", "none"}, {"run 04", "none"}, {"run  4", "none"}, {" run 4", "none"}, {"run 4 ", "none"}, {"run 9223372036854775808", "none"}}},
		// Few steps.
		{sumProgram, 1, dialog{{"run 4", "running"}}}, {sumProgram, 4, dialog{{"run 4", "running"}}}, {sumProgram, 5, dialog{{"run 4", "running 7"}, {"run 5", "check"}}}, {sumProgram, 6, dialog{{"run 4", "halted 7"}}},
		// Many outputs, and each code.
		{"3 1 1|in r0|out r0|out r1|out r0|out r0|out r0|out r0", 20, dialog{{"run 5", "end 5 0 5 5 5 5"}}}, {"3 1 1|in r0|out r0|jump 1", 60, dialog{{"run 5", "output 5 5 5 5 5 5"}}}, {"3 1 1|in r0|out r0|in r0", 20, dialog{{"run 5", "input 5"}}}, {"3 1 1|in r0|load r1 r0", 20, dialog{{"run 5", "address"}, {"run 0", "end"}}}, {"3 1 1|in r0|out r0|div r1 r0", 20, dialog{{"run 0", "division 0"}, {"run 2", "end 2"}}}, {"3 1 0|call 0", 20, dialog{{"run", "stack"}, {"run ", "stack"}, {"run 0", "none"}, {"run x", "none"}, {" run", "none"}}},
		{second, 20, dialog{{"run 1 2", "halted 2"}, {"run 1", "none"}, {"run 1 2 3", "none"}, {"run 1  2", "none"}, {"run 1,2", "none"}, {"run 1 8", "none"}}},
	} {
		checkDialog(t, sessionOf(t, c.program, c.fuel, ""), c.lines)
	}
}

func TestP10Show(t *testing.T) {
	for _, program := range []string{"4 1 1|halt", sumProgram, second, "8 6 3|store r1 r2|call 0|ret", "2 1 0" + strings.Repeat("|halt", 40)} {
		s := sessionOf(t, program, 20, "")
		mustAnswer(t, s, "show", "machine "+program+"|", textOfSession(s))
	}
	mustAnswer(t, impl.NewSession(), "show", "machine 4 1 1|halt|", textOfSession(impl.NewSession()))
}

func TestP10Simple(t *testing.T) {
	checkDialog(t, impl.NewSession(), dialog{
		{"simple a:3", "a:3"}, {"simple 3:5", "3:5"}, {"simple (add 3:1 (add 3:2 a:3))", "(add 3:3 a:3)"}, {"simple (not (not a:2))", "a:2"}, {"simple (sub a:4 a:4)", "4:0"}, {"simple (cut 0 4 a:4)", "a:4"}, {"simple (if 1:1 a:3 b:3)", "a:3"}, {"simple (less a:2 b:2)", "(less a:2 b:2)"}, {"simple (grow 8 (cut 1 2 abc1:4))", "(grow 8 (cut 1 2 abc1:4))"}, {"simple 1:1", "1:1"},
		{"simple", "none"}, {"simple ", "none"}, {"simple a", "none"}, {"simple 3:8", "none"}, {"simple a:0", "none"}, {"simple a:17", "none"}, {"simple  a:3", "none"}, {" simple a:3", "none"}, {"simple a:3 ", "none"}, {"simple a:3 b:3", "none"}, {"simple (add 3:1 a:2)", "none"}, {"simple (add 3:1 a:3", "none"}, {"simple (add 3:1  a:3)", "none"}, {"simple (plus 3:1 a:3)", "none"}, {"simple add 3:1 a:3", "none"}, {"simple A:3", "none"}, {"simple \xff:3", "none"}, {"simple 3:05", "none"}, {"simple a:3|", "none"},
	})
	big := strings.Repeat("(not ", 239) + "a:1" + strings.Repeat(")", 239)
	checkDialog(t, impl.NewSession(), dialog{{"simple " + big, "(not a:1)"}, {"simple (not " + big + ")", "none"}, {"solve " + big, "a=0"}, {"solve (not " + big + ")", "none"}})
}

func TestP10Solve(t *testing.T) {
	checkDialog(t, impl.NewSession(), dialog{
		// Values, also of variables that make no difference.
		{"solve (eq 2:1 a:2)", "a=1"}, {"solve a:1", "a=1"}, {"solve (not a:1)", "a=0"}, {"solve (eq a:2 b:2)", "a=0 b=0"}, {"solve (less a:2 b:2)", "a=0 b=1"}, {"solve (less b:2 a:2)", "a=1 b=0"}, {"solve (eq (add i1:3 i0:3) 3:7)", "i0=0 i1=7"}, {"solve (or 1:1 a:1)", "a=0"}, {"solve (eq (mul a:3 b:3) (mul c:3 3:5))", "a=0 b=0 c=0"}, {"solve (eq (join b:1 a:1) 2:2)", "a=0 b=1"}, {"solve (eq abcdefgh:8 8:255)", "abcdefgh=255"},
		// Without variables.
		{"solve 1:1", "yes"}, {"solve (eq 3:2 3:2)", "yes"}, {"solve (less 3:1 3:2)", "yes"}, {"solve 1:0", "no"}, {"solve (eq 3:2 3:3)", "no"},
		{"solve (not (eq a:2 a:2))", "no"}, {"solve (and a:1 (not a:1))", "no"}, {"solve (less a:3 3:0)", "no"},
		// A circuit of which there is none.
		{"solve (eq a:16 b:16)", "open"}, {"solve (eq a:15 (mul b:15 b:15))", "open"}, {"solve (eq a:16 16:1)", "open"},
		// Another width, or no term.
		{"solve a:2", "none"}, {"solve 3:5", "none"}, {"solve (add 3:1 a:3)", "none"}, {"solve 2:1", "none"}, {"solve (grow 2 a:1)", "none"}, {"solve", "none"}, {"solve ", "none"}, {"solve a", "none"}, {"solve  a:1", "none"}, {" solve a:1", "none"}, {"solve a:1 ", "none"}, {"solve a:1 b:1", "none"}, {"solve 1:2", "none"}, {"solve (eq 2:1 a:3)", "none"}, {"solve (eq 2:1 a:2", "none"}, {"solve (and a:1 (eq a:2 a:2))", "none"}, {"solve A:1", "none"}, {"solve #", "none"},
	})
}

// TestP10SolveSplits has terms for which many splits are made, or too many.
func TestP10SolveSplits(t *testing.T) {
	for _, c := range []struct{ text, want string }{
		{"(not (eq (sub a:5 b:5) (neg (sub b:5 a:5))))", "no"}, {"(not (eq (sub (grow 6 a:5) b:6) (neg (sub b:6 (grow 6 a:5)))))", "no"}, {"(not (eq (sub a:6 b:6) (neg (sub b:6 a:6))))", "open"},
		{"(not (eq (sub a:10 b:10) (neg (sub b:10 a:10))))", "open"},
	} {
		u := read(t, c.text)
		if code, _ := impl.SolveTerm(u, 3000); code != map[string]int{"no": impl.SatNo, "open": impl.SatOpen}[c.want] {
			t.Errorf("SolveTerm of %s = %d", c.text, code)
		}
		checkDialog(t, impl.NewSession(), dialog{{"solve " + c.text, c.want}})
	}
}

func TestP10Paths(t *testing.T) {
	for _, c := range []struct {
		program string
		fuel    int
		want    string
	}{
		{sumProgram, 20, "3 2 3"}, {sumProgram, 4, "2 2 2"}, {sumProgram, 3, "1 1 1"}, {echo3, 20, "1 1 1"}, {"2 1 1|in r0|zero r0 3|set r1 1|out r1|halt", 20, "2 2 1"},
		// Explore has just so many ends, or too many.
		{sameProgram, 20, "64 2 1"}, {deepProgram, 20, "- 2 1"}, {deepProgram, 7, "64 2 1"},
		// ExploreFeasible fails, too.
		{"2 2 2|in r0|in r1|not r3|store r2 r3|zero r3 2|xor r1 r2|eq r2 r1|load r2 r1|zero r2 8|zero r2 11|xor r1 r1|check r2", 60, "- - 6"},
	} {
		s := sessionOf(t, c.program, c.fuel, "1")
		s.Tests = nil
		mustAnswer(t, s, "paths", c.want, textOfSession(s))
	}
}

// twoCounts counts two inputs down to 0, one after the other.
func twoCounts(t *testing.T, w string) impl.Session {
	return sessionOf(t, w+" 1 2|in r0|in r1|set r2 1|zero r0 6|sub r0 r2|jump 3|zero r1 9|sub r1 r2|jump 6|halt", 60, "1 2")
}

// TestP10LinesOfManyPaths has programs with just as many ends as there may be, and with more.
func TestP10LinesOfManyPaths(t *testing.T) {
	checkDialog(t, twoCounts(t, "3"), dialog{{"paths", "- 64 7"}})
	checkDialog(t, twoCounts(t, "4"), dialog{{"paths", "- - 7"}, {"tests", "none"}, {"concolic 0 0", "none"}})
	s := twoCounts(t, "3")
	if _, out, _ := impl.RunLine(s, "tests"); len(readTests(t, out)) != 64 || !strings.HasPrefix(out, "0 0, 0 1, 0 2, ") || !strings.HasSuffix(out, ", 7 6, 7 7") {
		t.Errorf("tests of 64 paths give %q", out)
	}
	after, out, _ := impl.RunLine(s, "concolic 0 0")
	if out != "64" || len(after.Tests) != 64 || !impl.SessionOk(after) || textOfInts(after.Tests[0]) != "0 0" {
		t.Errorf("concolic of 64 paths gives %q and %s", out, textOfSession(after))
	}
	checkDialog(t, sessionOf(t, sameProgram, 20, ""), dialog{{"facts 7", ""}, {"safe 7", "yes"}, {"paths", "64 2 1"}})
	checkDialog(t, sessionOf(t, deepProgram, 20, ""), dialog{{"facts 7", ""}, {"safe 7", "yes"}, {"facts 8", "none"}, {"safe 8", "none"}})
}

// differenceOf is a program that outputs i0 - i1, and has 0 in r1 then; but this is not seen at once, as it is made of i0 - i1 and the negative of i1 - i0.
func differenceOf(w int) string {
	return strconv.Itoa(w) + " 1 2|in r0|in r1|move r2 r0|sub r2 r1|out r2|sub r1 r0|not r1|set r3 1|add r1 r3|xor r1 r2"
}

// TestP10LinesOfManySplits has terms for which about 1000 splits are made, and about 4000, which are too many.
func TestP10LinesOfManySplits(t *testing.T) {
	forks, checks := "|zero r1 12|halt|halt", "|set r3 0|eq r3 r1|check r3|halt"
	checkDialog(t, sessionOf(t, differenceOf(5)+forks, 20, ""), dialog{{"paths", "2 1 2"}, {"tests", "0 0"}})
	checkDialog(t, sessionOf(t, differenceOf(6)+forks, 20, ""), dialog{{"paths", "2 2 2"}, {"tests", "none"}, {"concolic 0 0", "none"}})
	s := sessionOf(t, differenceOf(5)+forks, 20, "")
	mustAnswer(t, s, "concolic 0 0", "1", shown(s.Program)+"; 20; 0 0")
	checkDialog(t, sessionOf(t, differenceOf(5)+checks, 20, ""), dialog{{"safe 13", "yes"}})
	checkDialog(t, sessionOf(t, differenceOf(6)+checks, 20, ""), dialog{{"safe 13", "no"}})
	for w, want := range map[int]string{5: "r1 is 0, ", 6: "r3 is 1, "} {
		s := sessionOf(t, differenceOf(w)+"|halt", 20, "1 2, 3 1, 0 0")
		if _, out, _ := impl.RunLine(s, "facts 10"); !strings.HasPrefix(out, want) {
			t.Errorf("facts of words of %d bits are %q", w, out)
		}
	}
	for w, want := range map[int]string{5: "same", 6: "open"} {
		width := strconv.Itoa(w)
		checkDialog(t, sessionOf(t, width+" 1 2|in r0|in r1|sub r0 r1|out r0|halt", 20, ""), dialog{{"differ machine " + width + " 1 2|in r0|in r1|sub r1 r0|not r1|set r3 1|add r1 r3|out r1|halt|", want}})
	}
}

func TestP10Tests(t *testing.T) {
	checkDialog(t, sessionOf(t, sumProgram, 20, "1"), dialog{{"tests", "5, 0"}})
	checkDialog(t, sessionOf(t, sumProgram, 3, ""), dialog{{"tests", "0"}})
	checkDialog(t, sessionOf(t, second, 20, ""), dialog{{"tests", "0 0"}})
	checkDialog(t, sessionOf(t, orderProgram, 20, ""), dialog{{"tests", "0 0, 1 0, 0 1"}})
	checkDialog(t, sessionOf(t, "2 1 0|halt", 20, ""), dialog{{"tests", ""}})
	// They fail.
	checkDialog(t, sessionOf(t, cubeProgram, 20, ""), dialog{{"tests", "none"}})
	checkDialog(t, sessionOf(t, "2 2 2|in r0|in r1|not r3|store r2 r3|zero r3 2|xor r1 r2|eq r2 r1|load r2 r1|zero r2 8|zero r2 11|xor r1 r1|check r2", 60, ""), dialog{{"tests", "none"}})
}

func TestP10Concolic(t *testing.T) {
	for _, c := range []struct{ program, line, want, tests string }{
		{sumProgram, "concolic 4", "2", "4, 5"}, {sumProgram, "concolic 5", "2", "5, 0"}, {echo3, "concolic 3", "1", "3"}, {second, "concolic 3 7", "1", "3 7"}, {"2 1 1|in r0|check r0|halt", "concolic 0", "2", "0, 1"},
	} {
		s := sessionOf(t, c.program, 20, "")
		mustAnswer(t, s, c.line, c.want, shown(s.Program)+"; 20; "+c.tests)
		// The tests that there were are gone.
		s.Tests = [][]int{make([]int, s.Program.In), make([]int, s.Program.In)}
		mustAnswer(t, s, c.line, c.want, shown(s.Program)+"; 20; "+c.tests)
	}
	none := sessionOf(t, "2 1 0|halt", 20, "")
	if after, out, ok := impl.RunLine(none, "concolic"); out != "1" || !ok || len(after.Tests) != 1 || len(after.Tests[0]) != 0 {
		t.Errorf("RunLine of concolic without inputs = %s, %q, %v", textOfSession(after), out, ok)
	}
	checkDialog(t, none, dialog{{"concolic 0", "none"}, {"concolic x", "none"}, {" concolic", "none"}})
	checkDialog(t, sessionOf(t, sumProgram, 20, "1, 2"), dialog{{"concolic", "none"}, {"concolic ", "none"}, {"concolic 8", "none"}, {"concolic -1", "none"}, {"concolic 4 4", "none"}, {"concolic x", "none"}, {"concolic 04", "none"}, {"concolic  4", "none"}, {" concolic 4", "none"}, {"concolic 4 ", "none"}})
	// It is not found out whether there is another path.
	checkDialog(t, sessionOf(t, cubeProgram, 20, "1 2"), dialog{{"concolic 1 2", "none"}})
}

func TestP10CoverSmallestScore(t *testing.T) {
	// The program has five mutants.
	checkDialog(t, sessionOf(t, sumProgram, 20, ""), dialog{{"cover", ""}, {"smallest", ""}, {"score", "0 of 5"}})
	checkDialog(t, sessionOf(t, sumProgram, 20, "4, 0, 5"), dialog{{"cover", "6 7"}, {"smallest", "0 2"}, {"score", "5 of 5"}})
	checkDialog(t, sessionOf(t, sumProgram, 20, "4"), dialog{{"cover", "6"}, {"smallest", "0"}, {"score", "3 of 5"}})
	checkDialog(t, sessionOf(t, sumProgram, 20, "5"), dialog{{"cover", "7"}, {"smallest", "0"}, {"score", "4 of 5"}})
	checkDialog(t, sessionOf(t, sumProgram, 3, "4, 0, 5"), dialog{{"cover", ""}, {"smallest", ""}, {"score", "0 of 5"}})
	checkDialog(t, sessionOf(t, "2 1 0|halt", 20, ""), dialog{{"cover", ""}, {"smallest", ""}, {"score", "0 of 0"}})
	// There are at most ten tests in the list of which the smallest suite is made.
	checkDialog(t, sessionOf(t, sumProgram, 20, "4, 4, 4, 4, 4, 4, 4, 4, 4, 5"), dialog{{"smallest", "0 9"}, {"cover", "6 7"}})
	checkDialog(t, sessionOf(t, sumProgram, 20, "4, 4, 4, 4, 4, 4, 4, 4, 4, 4, 5"), dialog{{"smallest", ""}, {"cover", "6 7"}, {"score", "5 of 5"}})
}

// checkLoop counts down, and checks at each visit that r1 is not 0.
const checkLoop = "3 1 1|in r0|set r1 1|zero r0 6|check r1|sub r0 r1|jump 2|halt"

func TestP10Facts(t *testing.T) {
	all := "r1 is 1, r2 is 0, r3 is 0, r2 same r3, r1 most 1, r2 most 0, r3 most 0, r1 bit 0 1, r1 bit 1 0, r1 bit 2 0, r2 bit 0 0, r2 bit 1 0, r2 bit 2 0, r3 bit 0 0, r3 bit 1 0, r3 bit 2 0, r1 sum r2 1, r1 sum r3 1, r2 sum r3 0, r2 order r0, r2 order r1, r2 order r3, r3 order r0, r3 order r1, r3 order r2"
	checkDialog(t, sessionOf(t, checkLoop, 20, "2, 7"), dialog{{"facts 2", all}, {"safe 2", "yes"}})
	// No tests, no facts: the check may fail, as far as is known.
	checkDialog(t, sessionOf(t, checkLoop, 20, ""), dialog{{"facts 2", ""}, {"safe 2", "no"}})
	checkDialog(t, sessionOf(t, checkLoop, 60, ""), dialog{{"facts 6", "none"}, {"safe 6", "none"}, {"facts 2", ""}})
	checkDialog(t, sessionOf(t, checkLoop, 20, "2"), dialog{
		{"facts", "none"}, {"facts ", "none"}, {"facts 2 2", "none"}, {"facts x", "none"}, {"facts 02", "none"}, {"facts  2", "none"}, {" facts 2", "none"}, {"facts 2 ", "none"}, {"facts 8", "none"}, {"facts -1", "none"}, {"facts 9223372036854775807", "none"}, {"facts 9223372036854775808", "none"}, {"facts r0", "none"},
		{"safe", "none"}, {"safe ", "none"}, {"safe 2 2", "none"}, {"safe x", "none"}, {"safe 02", "none"}, {"safe  2", "none"}, {" safe 2", "none"}, {"safe 2 ", "none"}, {"safe 8", "none"}, {"safe -1", "none"}, {"safe 9223372036854775807", "none"}, {"safe 9223372036854775808", "none"}, {"safe r0", "none"},
	})
	// The check does fail.
	checkDialog(t, sessionOf(t, "3 1 1|in r0|set r1 1|zero r0 6|check r0|sub r0 r1|jump 2|check r0", 20, "2"), dialog{{"safe 2", "no"}})
	// Calls.
	checkDialog(t, sessionOf(t, "3 1 1|in r0|call 3|halt|ret", 20, "2"), dialog{{"facts 1", "none"}, {"safe 1", "none"}})
	// Too little fuel for the rest of the loop, or for the way to it.
	checkDialog(t, sessionOf(t, checkLoop, 2, "2"), dialog{{"facts 2", "none"}, {"safe 2", "none"}})
	checkDialog(t, sessionOf(t, checkLoop, 4, "2"), dialog{{"facts 2", all}, {"safe 2", "yes"}})
}

// TestP10FactsElsewhere asks at all places, those that are no loop's among them.
func TestP10FactsElsewhere(t *testing.T) {
	for _, program := range []string{checkLoop, countdown, sumProgram, chain, transfer, echo3} {
		s := sessionOf(t, program, 20, "")
		s.Tests = [][]int{make([]int, s.Program.In)}
		for pc := range len(s.Program.Code) + 3 {
			for _, word := range []string{"facts", "safe"} {
				line := word + " " + strconv.Itoa(pc)
				mustAnswer(t, s, line, slowLoopLine(s, word, pc), textOfSession(s))
			}
		}
	}
	checkDialog(t, sessionOf(t, echo3, 20, "2"), dialog{{"safe 0", "yes"}, {"safe 2", "yes"}, {"facts 4", "none"}, {"safe 4", "none"}})
}

func TestP10DifferLine(t *testing.T) {
	checkDialog(t, sessionOf(t, echo3, 20, "1"), dialog{
		{"differ machine 3 1 1|in r0|out r0|halt|", "same"}, {"differ machine 3 1 1\nin r0\nout r0\nhalt\n", "same"}, {"differ machine 3 6 1|in r2|jump 2|out r2|halt|", "same"}, {"differ machine 3 1 1|in r0|not r0|not r0|out r0|halt|", "same"},
		{"differ machine 3 1 1|in r0|set r1 5|eq r1 r0|zero r1 5|not r0|out r0|halt|", "5"}, {"differ machine 3 1 1|halt|", "0"},
		// Another W or In.
		{"differ machine 2 1 1|in r0|out r0|halt|", "none"}, {"differ machine 3 1 2|in r0|out r0|halt|", "none"}, {"differ machine 3 1 0|halt|", "none"},
		// It is not found out.
		{"differ machine 3 1 1|jump 0|", "open"}, {"differ machine 3 1 1|in r0|zero r0 1|jump 1|", "open"},
		// No program.
		{"differ", "none"}, {"differ ", "none"}, {"differ machine 3 1 1|in r0|out r0|halt", "none"}, {"differ  machine 3 1 1|in r0|out r0|halt|", "none"}, {" differ machine 3 1 1|in r0|out r0|halt|", "none"}, {"differ machine 3 1 1|in r0|out r0|halt| ", "none"}, {"differ 3 1 1|in r0|out r0|halt|", "none"}, {"differ x", "none"}, {"differ machine 3 9 1|halt|", "none"}, {"differ #", "none"},
	})
	checkDialog(t, sessionOf(t, second, 20, ""), dialog{{"differ machine 3 1 2|in r0|in r1|set r2 6|eq r2 r1|zero r2 6|not r1|out r1|halt|", "0 6"}, {"differ machine 3 1 2|halt|", "0 0"}})
	// Without inputs there is only one test.
	checkDialog(t, sessionOf(t, "3 1 0|halt", 20, ""), dialog{{"differ machine 3 1 0|jump 1|", ""}, {"differ machine 3 1 0|not r0|halt|", "same"}})
	// The fuel of the session.
	checkDialog(t, sessionOf(t, echo3, 2, ""), dialog{{"differ machine 3 1 1|in r0|out r0|halt|", "open"}})
	checkDialog(t, sessionOf(t, echo3, 3, ""), dialog{{"differ machine 3 1 1|in r0|out r0|halt|", "same"}})
	checkDialog(t, sessionOf(t, sameProgram, 20, ""), dialog{{"differ " + shown(readProgram(t, sameProgram)), "same"}, {"differ " + shown(readProgram(t, deepProgram)), "open"}})
}

// TestP10BadSessions has sessions that are not valid, with lines that would give something or not.
func TestP10BadSessions(t *testing.T) {
	lines := []string{"", "#", "x", "show", "load machine 2 1 0|halt|", "fuel 5", "test 1", "run 1", "simple a:3", "solve a:1", "paths", "tests", "concolic 1", "cover", "smallest", "score", "facts 0", "safe 0", "differ machine 2 1 0|halt|"}
	for k, s := range badSessions(t) {
		for _, line := range []string{lines[k%len(lines)], "show", "", "fuel 5"} {
			after, out, ok := impl.RunLine(s, line)
			if ok || out != "" || textOfSession(after) != zeroSession {
				t.Errorf("RunLine of %s, %q = %s, %q, %v", textOfSession(s), line, textOfSession(after), out, ok)
			}
		}
	}
	for _, line := range lines {
		if after, out, ok := impl.RunLine(impl.Session{}, line); ok || out != "" || textOfSession(after) != zeroSession {
			t.Errorf("RunLine of nothing, %q = %s, %q, %v", line, textOfSession(after), out, ok)
		}
	}
}

func TestP10RunScript(t *testing.T) {
	for _, c := range []struct {
		text, want string
		lines      int
	}{
		{"", "", 0}, {"\n", "\n", 1}, {" ", "\n", 1}, {"\n\n", "\n\n", 2}, {"show", "machine 4 1 1|halt|\n", 1}, {"show\n", "machine 4 1 1|halt|\n", 1}, {"show\n ", "machine 4 1 1|halt|\n\n", 2}, {"\nshow", "\nmachine 4 1 1|halt|\n", 2}, {"x", "unknown command\n", 1}, {"show\r\n", "unknown command\n", 1}, {"# a comment\nrun 3\n", "\nhalted\n", 2},
		// The session goes on; where a line gives none, as it was.
		{"load machine 2 1 1|in r0|out r0|halt|\nrun 3\nsolve (eq 2:1 a:2)\n", "ok\nhalted 3\na=1\n", 3}, {"fuel 2\nload machine 2 1 1|in r0|out r0|halt|\nrun 3\nfuel 61\nrun 3\nfuel 3\nrun 3", "ok\nok\nrunning 3\nnone\nrunning 3\nok\nhalted 3\n", 7},
		{"load machine 2 1 1|in r0|out r0|halt|\nload machine 2 1 1|in r0\nshow\nx\nrun 4\nrun 3\n", "ok\nnone\nmachine 2 1 1|in r0|out r0|halt|\nunknown command\nnone\nhalted 3\n", 6},
		{"test 15\ntest 16\ntest 0\nload machine 3 2 1|in r0|set r1 3|add r0 r1|zero r0 6|out r0|halt|check r0|\nscore\ntest 4\ntest 8\ntest 5\ncover\nsmallest\nscore\nconcolic 1 1\nconcolic 1\nsmallest\nload machine\nscore\n", "ok\nnone\nok\nok\n0 of 5\nok\nnone\nok\n6 7\n0 1\n5 of 5\nnone\n2\n0 1\nnone\n5 of 5\n", 16},
		{"load machine 3 1 1|in r0|set r1 1|zero r0 6|check r1|sub r0 r1|jump 2|halt|\npaths\nsafe 2\ntest 2\nsafe 2\nfacts 9\n", "ok\n6 6 2\nno\nok\nyes\nnone\n", 6},
	} {
		got, n := impl.RunScript(c.text)
		if got != c.want || n != c.lines {
			t.Errorf("RunScript of %q = %q, %d, want %q", c.text, got, n, c.want)
		}
	}
}

// TestP10RunScriptLines has just as many lines as there may be, and more.
func TestP10RunScriptLines(t *testing.T) {
	for _, line := range []string{"", "run 3", "x", " "} {
		out := map[string]string{"run 3": "halted", "x": "unknown command"}[line] + "\n"
		for n := 1; n <= 43; n++ {
			text := strings.Repeat(line+"\n", n)
			for _, c := range []struct {
				text  string
				lines int
			}{{text, n}, {text + "#", n + 1}, {text + "#\n", n + 1}, {text + "#\n\n", n + 2}} {
				want, lines := strings.Repeat(out, n)+strings.Repeat("\n", c.lines-n), c.lines
				if lines > 40 {
					want, lines = "", -1
				}
				if got, k := impl.RunScript(c.text); got != want || k != lines {
					t.Errorf("RunScript of %q = %q, %d, want %d", c.text, got, k, lines)
				}
			}
		}
	}
	if out, n := impl.RunScript(strings.Repeat("\n", 1000000)); out != "" || n != -1 {
		t.Errorf("RunScript of very many lines = %q, %d", out, n)
	}
}

// consolePrograms are programs of which few take long.
func consolePrograms(n int) []impl.Program {
	looping, _ := loopingPrograms(n)
	return slices.Concat(forkingPrograms(n), callingPrograms(n), looping, somePrograms(n))
}

// TestP10LinesOfAny compares the answers to made lines with those of the functions, and scripts with their lines one after the other.
func TestP10LinesOfAny(t *testing.T) {
	m := maker{state: 601}
	programs := consolePrograms(60)
	found := map[string]int{}
	for range 120 {
		p := programs[m.below(len(programs))]
		first := "load " + shown(p)
		s, out, ok := impl.RunLine(impl.NewSession(), first)
		if out != "ok" || !ok {
			t.Fatalf("RunLine of %q gives %q", first, out)
		}
		lines, outs := []string{first}, "ok\n"
		for range 1 + m.below(39) {
			line := m.line(s, programs)
			want, answer := slowLine(s, line)
			after, out, ok := impl.RunLine(s, line)
			if !ok || out != answer || textOfSession(after) != textOfSession(want) {
				t.Errorf("RunLine of %s, %q = %s, %q, %v, want %s, %q", textOfSession(s), line, textOfSession(after), out, ok, textOfSession(want), answer)
			}
			if out != "none" && out != "unknown command" {
				word, _, _ := strings.Cut(line, " ")
				found[word]++
			} else {
				found[out]++
			}
			s = after
			lines, outs = append(lines, line), outs+out+"\n"
		}
		text := strings.Join(lines, "\n")
		if m.below(2) == 0 {
			text += "\n"
		}
		// An empty line is no line where nothing is behind it.
		if text == strings.Join(lines, "\n") && lines[len(lines)-1] == "" {
			lines, outs = lines[:len(lines)-1], strings.TrimSuffix(outs, "\n")
		}
		if got, n := impl.RunScript(text); got != outs || n != len(lines) {
			t.Errorf("RunScript of %q = %q, %d, want %q", text, got, n, outs)
		}
	}
	for _, word := range append([]string{"load", "fuel", "test", "concolic", "run", "simple", "solve", "facts", "safe", "differ", "none", "unknown command"}, wholeLines...) {
		if found[word] < 15 {
			t.Errorf("there are only %d lines with %s", found[word], word)
		}
	}
}

// TestP10LinesOfBytes has lines of any bytes.
func TestP10LinesOfBytes(t *testing.T) {
	s := sessionOf(t, sumProgram, 20, "4, 0")
	var lines []string
	for _, text := range oddTexts() {
		lines = append(lines, text, "run "+text, "solve "+text, "load "+text, "fuel "+text, "facts "+text, text+" 1")
	}
	for _, line := range []string{"fuel 20", "test 4", "run 4", "solve (eq a:2 2:1)", "show", "score", "load machine 2 1 0|halt|", "simple a:3"} {
		lines = append(lines, almostTexts(line, " |#1\n\xff")...)
	}
	for _, line := range lines {
		want, answer := slowLine(s, line)
		after, out, ok := impl.RunLine(s, line)
		if !ok || out != answer || textOfSession(after) != textOfSession(want) {
			t.Errorf("RunLine of %q = %s, %q, %v, want %s, %q", line, textOfSession(after), out, ok, textOfSession(want), answer)
		}
	}
	for _, text := range oddTexts() {
		mustNot(t, "RunScript", func() {
			out, n := impl.RunScript(text)
			if lines := len(impl.SplitLines(text)); n != lines && lines <= 40 || strings.Count(out, "\n") != max(n, 0) {
				t.Errorf("RunScript of %q = %q, %d", text, out, n)
			}
		})
	}
}
