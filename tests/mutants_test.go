package tests

import (
	"math"
	"slices"
	"strconv"
	"strings"
	"testing"

	"loop.example/g03219/impl"
)

// changeOf writes the place at which two programs differ, and the instruction of the second one there; another text if they differ in anything else.
func changeOf(p, q impl.Program) string {
	if p.W != q.W || p.Mem != q.Mem || p.In != q.In || len(p.Code) != len(q.Code) {
		return "not alike"
	}
	var texts []string
	for pc, i := range q.Code {
		if p.Code[pc] != i {
			texts = append(texts, strconv.Itoa(pc)+" "+textOfIns(i))
		}
	}
	return strings.Join(texts, " & ")
}

func changesOf(p impl.Program, l []impl.Program) string {
	var texts []string
	for _, q := range l {
		texts = append(texts, changeOf(p, q))
	}
	return strings.Join(texts, ", ")
}

func TestP9MutantsOf(t *testing.T) {
	for _, c := range []struct{ program, want string }{
		{"3 2 1|in r0|set r1 7|sar r0 r1|below r0 r1|zero r0 6|check r2|halt", "1 set r1 0, 2 add r0 r1, 3 eq r0 r1, 4 jump 6, 4 move r0 r0, 5 move r2 r2"},
		// Those that have none.
		{"2 1 1|move r1 r2|not r1|in r1|out r1|load r1 r2|store r1 r2|jump 2|call 3|ret|halt", ""}, {"2 1 0|halt", ""}, {"2 1 0|move r0 r0", ""},
		{"2 1 0|set r0 0|set r1 1|set r2 2|set r3 3", "0 set r0 1, 1 set r1 2, 2 set r2 3, 3 set r3 0"}, {"8 1 0|set r0 255|set r0 254|set r0 127|set r0 0", "0 set r0 0, 1 set r0 255, 2 set r0 128, 3 set r0 1"}, {"4 1 0|set r3 15|set r3 15", "0 set r3 0, 1 set r3 0"},
		{"3 1 0|add r0 r1|sub r1 r0|mul r2 r3|div r3 r3|rem r0 r0", "0 sub r0 r1, 1 mul r1 r0, 2 div r2 r3, 3 rem r3 r3, 4 and r0 r0"}, {"3 1 0|and r0 r1|or r0 r1|xor r0 r1|shl r0 r1|shr r0 r1|sar r0 r1", "0 or r0 r1, 1 xor r0 r1, 2 shl r0 r1, 3 shr r0 r1, 4 sar r0 r1, 5 add r0 r1"}, {"3 1 0|eq r0 r1|less r2 r1|below r3 r0", "0 less r0 r1, 1 below r2 r1, 2 eq r3 r0"},
		{"2 1 0|zero r2 3|zero r0 0|zero r3 1", "0 jump 3, 0 move r2 r2, 1 jump 0, 1 move r0 r0, 2 jump 1, 2 move r3 r3"}, {"2 1 0|check r0|check r3", "0 move r0 r0, 1 move r3 r3"}, {"2 1 0|zero r1 1", "0 jump 1, 0 move r1 r1"},
		{sumProgram, "1 set r1 4, 2 sub r0 r1, 3 jump 6, 3 move r0 r0, 6 move r0 r0"}, {descent, "1 set r1 2, 2 jump 5, 2 move r0 r0, 3 mul r0 r1"},
	} {
		p := readProgram(t, c.program)
		if got := changesOf(p, impl.MutantsOf(p)); got != c.want {
			t.Errorf("MutantsOf(%q) = %s, want %s", c.program, got, c.want)
		}
	}
	// 80 of them.
	p := impl.Program{W: 2, Mem: 1, Code: slices.Repeat([]impl.Ins{ins(impl.InsZero, 1, 40, 0)}, 40)}
	if got := impl.MutantsOf(p); len(got) != 80 || changeOf(p, got[0]) != "0 jump 40" || changeOf(p, got[79]) != "39 move r1 r1" {
		t.Errorf("MutantsOf has %d programs, %s", len(got), changesOf(p, got))
	}
	for _, bad := range badPrograms() {
		if got := impl.MutantsOf(bad); len(got) != 0 {
			t.Errorf("MutantsOf(%.300s) has %d programs", dumpProgram(bad), len(got))
		}
	}
}

// TestP9MutantsOfAny compares with the document's text, and checks that mutants are valid programs that differ in one instruction.
func TestP9MutantsOfAny(t *testing.T) {
	for _, p := range slices.Concat(somePrograms(500), forkingPrograms(200)) {
		got := impl.MutantsOf(p)
		if !slices.EqualFunc(got, slowMutants(p), samePrograms) {
			t.Errorf("MutantsOf(%s) = %s", dumpProgram(p), changesOf(p, got))
		}
		for _, q := range got {
			if change := changeOf(p, q); !impl.ProgramOk(q) || change == "" || change == "not alike" || strings.Contains(change, "&") {
				t.Errorf("a mutant of %s is %s", dumpProgram(p), change)
			}
		}
	}
}

func TestP9KillsOf(t *testing.T) {
	echo, three := "3 1 1|in r0|out r0|halt", "3 1 3|in r0|in r1|in r2|out r1|halt"
	for _, c := range []struct {
		p, q, tests string
		fuel        int
		want        string
	}{
		{echo, echo, "0, 5, 7", 400, ""}, {echo, "3 1 1|in r0|set r1 1|or r0 r1|out r0|halt", "0, 1, 2, 3", 400, "0 2"}, {echo, "3 1 1|in r0|set r1 1|or r0 r1|out r0|halt", "1, 3, 1", 400, ""}, {echo, "3 1 1|in r0|set r1 1|or r0 r1|out r0|halt", "2, 2, 1, 2", 400, "0 1 3"}, {echo, "3 1 1|in r0|set r1 1|or r0 r1|out r0|halt", "", 400, ""},
		// They differ in their Codes alone, or in the number of outputs.
		{echo, "3 1 1|in r0|out r0", "3, 4", 400, "0 1"}, {echo, "3 1 1|in r0|out r0|in r0", "3", 400, "0"}, {echo, "3 1 1|in r0|out r0|check r0|halt", "3, 0, 1", 400, "1"}, {echo, "3 1 1|in r0|out r0|zero r0 4|halt|out r0|halt", "3, 0", 400, "1"}, {echo, "3 1 1|in r0|out r0|jump 2", "3", 400, "0"}, {echo, "3 1 1|in r0|halt", "3, 0", 400, "0 1"},
		// What is not seen makes no difference.
		{echo, "3 6 1|in r0|out r0|set r1 5|store r3 r1|move r0 r1|halt", "3, 0", 400, ""}, {"3 1 1|halt", "3 1 1|in r0|halt", "3, 0", 400, ""},
		// Too little fuel to tell them apart, and just enough.
		{echo, "3 1 1|in r0|not r0|out r0|halt", "3, 0", 0, ""}, {echo, "3 1 1|in r0|not r0|out r0|halt", "3, 0", 1, ""}, {echo, "3 1 1|in r0|not r0|out r0|halt", "3, 0", 2, "0 1"}, {echo, "3 1 1|in r0|not r1|out r0|halt", "3, 0", 3, "0 1"}, {echo, "3 1 1|in r0|not r1|out r0|halt", "3, 0", 4, ""}, {echo, "3 1 1|in r0|out r0", "3", 2, ""}, {echo, "3 1 1|in r0|out r0", "3", 3, "0"},
		// Another width: the tests have to be of both.
		{echo, "2 1 1|in r0|out r0|halt", "1, 3", 400, ""}, {echo, "2 1 1|in r0|out r0|in r0", "1, 3", 400, "0 1"}, {"3 1 1|in r0|not r0|out r0", "2 1 1|in r0|not r0|out r0", "1, 3", 400, "0 1"}, {"3 1 1|in r0|not r0|out r0", "2 1 1|in r0|not r0|out r0", "1, 4, 3", 400, ""}, {"2 1 1|in r0|not r0|out r0", "3 1 1|in r0|not r0|out r0", "1, 3", 400, "0 1"}, {"2 1 1|in r0|not r0|out r0", "3 1 1|in r0|not r0|out r0", "7", 400, ""},
		{"3 1 1|in r0|set r1 1|shl r0 r1|out r0", "2 1 1|in r0|set r1 1|shl r0 r1|out r0", "0, 1, 2, 3", 400, "2 3"},
		// Another number of inputs: no list is a test of both.
		{echo, three, "1", 400, ""}, {echo, three, "1 1 1", 400, ""}, {three, echo, "1 1 1", 400, ""}, {three, echo, "1", 400, ""}, {three, "3 1 3|in r0|out r0|halt", "1 2 3, 2 2 2, 4 5 6", 400, "0 2"},
	} {
		p, q, tests := readProgram(t, c.p), readProgram(t, c.q), readTests(t, c.tests)
		if got := textOfInts(impl.KillsOf(p, q, tests, c.fuel)); got != c.want {
			t.Errorf("KillsOf(%q, %q, %s, %d) = %s, want %s", c.p, c.q, c.tests, c.fuel, got, c.want)
		}
		if got := textOfInts(impl.KillsOf(q, p, tests, c.fuel)); got != c.want {
			t.Errorf("KillsOf(%q, %q, %s, %d) = %s, want %s", c.q, c.p, c.tests, c.fuel, got, c.want)
		}
	}
	// Programs without inputs.
	p, q := readProgram(t, "2 1 0|out r0|halt"), readProgram(t, "2 1 0|not r0|out r0|halt")
	if got := impl.KillsOf(p, q, [][]int{nil, {}, nil}, 9); !slices.Equal(got, []int{0, 1, 2}) {
		t.Errorf("KillsOf of programs without inputs = %v", got)
	}
}

func TestP9ScoreOf(t *testing.T) {
	none, count := "2 1 1|in r0|out r0|halt", "3 1 1|in r0|set r1 1|zero r0 5|sub r0 r1|jump 2|out r1|halt"
	for _, c := range []struct {
		program, tests string
		fuel           int
		score, all     int
	}{
		{sumProgram, "4", 20, 3, 5}, {sumProgram, "5", 20, 4, 5}, {sumProgram, "4, 5", 20, 5, 5}, {sumProgram, "4, 4, 4", 400, 3, 5}, {sumProgram, "5, 4, 5, 0", 400, 5, 5},
		// No mutants, and no tests.
		{none, "", 20, 0, 0}, {none, "1, 2, 3", 20, 0, 0}, {none, "1, 2, 4", 20, 0, 0}, {sumProgram, "", 20, 0, 5}, {levels10, "", 20, 0, 30},
		// With too little fuel they are not told apart.
		{sumProgram, "4, 5", 0, 0, 5}, {sumProgram, "4, 5", 3, 0, 5}, {sumProgram, "4, 5", 4, 0, 5}, {sumProgram, "4", 5, 3, 5}, {sumProgram, "5", 4, 0, 5},
		{count, "2", 3, 0, 4}, {count, "2", 4, 1, 4}, {count, "2", 6, 1, 4}, {count, "2", 7, 2, 4}, {count, "2", 9, 2, 4}, {count, "2", 10, 4, 4},
		// One is no test.
		{sumProgram, "4, 5, 8", 20, 0, 5}, {sumProgram, "8, 4, 5", 20, 0, 5}, {sumProgram, "4, 5 5", 20, 0, 5}, {sumProgram, "4, -1, 5", 20, 0, 5},
		{"3 1 1|in r0|set r1 7|out r1|check r0", "5", 20, 1, 2}, {"3 1 1|in r0|set r1 7|out r1|check r0", "0", 20, 2, 2}, {"3 1 1|in r0|set r1 7|check r0", "5", 20, 0, 2},
	} {
		if score, all := impl.ScoreOf(readProgram(t, c.program), readTests(t, c.tests), c.fuel); score != c.score || all != c.all {
			t.Errorf("ScoreOf(%q, %s, %d) = %d, %d, want %d, %d", c.program, c.tests, c.fuel, score, all, c.score, c.all)
		}
	}
	p := readProgram(t, "2 1 0|set r0 1|out r0|halt")
	if score, all := impl.ScoreOf(p, [][]int{nil}, 9); score != 1 || all != 1 {
		t.Errorf("ScoreOf of a program without inputs = %d, %d", score, all)
	}
	if score, all := impl.ScoreOf(p, nil, 9); score != 0 || all != 1 {
		t.Errorf("ScoreOf of a program without inputs or tests = %d, %d", score, all)
	}
}

// TestP9KillsOfAny compares with the document's text.
func TestP9KillsOfAny(t *testing.T) {
	m := maker{state: 521}
	looping, _ := loopingPrograms(200)
	kills, killed, mutants := 0, 0, 0
	for _, pair := range m.pairs(slices.Concat(forkingPrograms(500), looping, callingPrograms(200))) {
		p, q := pair[0], pair[1]
		tests, fuel := m.tests(p, m.below(5)), m.below(60)
		want := slowKills(p, q, tests, fuel)
		kills += len(want)
		if got := impl.KillsOf(p, q, tests, fuel); !slices.Equal(got, want) {
			t.Errorf("KillsOf(%s, %s, %v, %d) = %v, want %v", dumpProgram(p), dumpProgram(q), tests, fuel, got, want)
		}
		score, others := 0, slowMutants(p)
		for _, other := range others {
			score += truth(len(slowKills(p, other, tests, fuel)) > 0)
		}
		killed, mutants = killed+score, mutants+len(others)
		if got, all := impl.ScoreOf(p, tests, fuel); got != score || all != len(others) {
			t.Errorf("ScoreOf(%s, %v, %d) = %d, %d, want %d, %d", dumpProgram(p), tests, fuel, got, all, score, len(others))
		}
	}
	if kills < 300 || killed < 600 || mutants-killed < 600 {
		t.Errorf("only %d tests that tell programs apart, and %d of %d mutants", kills, killed, mutants)
	}
}

func TestP9KillsInvalid(t *testing.T) {
	p := readProgram(t, sumProgram)
	q := impl.MutantsOf(p)[0]
	good := []int{4}
	if got := impl.KillsOf(p, q, [][]int{good}, 20); len(got) != 1 {
		t.Errorf("KillsOf = %v", got)
	}
	mustBeNone := func(p, q impl.Program, tests [][]int, fuel int) {
		t.Helper()
		for _, got := range [][]int{impl.KillsOf(p, q, tests, fuel), impl.KillsOf(q, p, tests, fuel)} {
			if len(got) != 0 {
				t.Errorf("KillsOf(%.300s, %.300s, %.100s, %d) = %v", dumpProgram(p), dumpProgram(q), testsText(tests), fuel, got)
			}
		}
	}
	for _, tests := range badTests(p) {
		mustBeNone(p, q, tests, 20)
		if score, all := impl.ScoreOf(p, tests, 20); score != 0 || all != 5 {
			t.Errorf("ScoreOf(%.100s) = %d, %d", testsText(tests), score, all)
		}
	}
	for _, fuel := range badFuels {
		mustBeNone(p, q, [][]int{good, good}, fuel)
		if score, all := impl.ScoreOf(p, [][]int{good}, fuel); score != 0 || all != 5 {
			t.Errorf("ScoreOf with %d = %d, %d", fuel, score, all)
		}
	}
	for _, bad := range badPrograms() {
		for n := range 3 {
			tests := [][]int{make([]int, n)}
			mustBeNone(p, bad, tests, 20)
			mustBeNone(bad, bad, tests, 20)
			for _, fuel := range []int{20, -1, math.MaxInt} {
				if score, all := impl.ScoreOf(bad, tests[:n%2], fuel); score != 0 || all != 0 {
					t.Errorf("ScoreOf(%.300s) = %d, %d", dumpProgram(bad), score, all)
				}
			}
		}
		mustBeNone(p, bad, nil, 20)
	}
}
