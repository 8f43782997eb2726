package tests

import (
	"slices"
	"strings"
	"testing"

	"loop.example/g03219/impl"
)

func TestP7PathConstants(t *testing.T) {
	if impl.MaxConds != 60 || impl.MaxPaths != 64 {
		t.Errorf("the limits are %d and %d", impl.MaxConds, impl.MaxPaths)
	}
}

func TestP7StartPath(t *testing.T) {
	for _, c := range []struct{ program, want string }{
		{"3 2 1|in r0|halt", "0|3:0, 3:0, 3:0, 3:0|3:0, 3:0||0||0|0||"}, {"2 1 0|halt", "0|2:0, 2:0, 2:0, 2:0|2:0||0||0|0||"}, {"8 6 3|not r0", "0|8:0, 8:0, 8:0, 8:0|8:0, 8:0, 8:0, 8:0, 8:0, 8:0||0||0|0||"},
	} {
		p := readProgram(t, c.program)
		if got := textOfPath(impl.StartPath(p)); got != c.want {
			t.Errorf("StartPath(%q) = %s", c.program, got)
		}
		if !impl.PathOk(p, impl.StartPath(p)) {
			t.Errorf("PathOk of StartPath(%q) = false", c.program)
		}
	}
	for _, p := range badPrograms() {
		if got := impl.StartPath(p); !noPath(got) {
			t.Errorf("StartPath(%.300s) = %s", dumpProgram(p), textOfPath(got))
		}
	}
}

func TestP7PathOk(t *testing.T) {
	p := readProgram(t, "3 2 1|in r0|halt")
	ones := strings.Repeat(", 1:1", 59)
	for _, text := range []string{
		"0|3:0, 3:0, 3:0, 3:0|3:0, 3:0||0||0|0||", "2|3:7, a:3, i0:3, (not b:3)|c:3, 3:7|2 0 2|1|3:1, 3:2, 3:3, 3:4, d:3, 3:6|9|400|c:1, 1:0|0 1", "1|i0:3, i1:3, (grow 3 i0:2), i2:3|3:0, 3:0||0||8|1|(eq i0:7 i9:7)|",
		"0|3:0, 3:0, 3:0, 3:0|3:0, 3:0||0||0|0||1 1 1", "0|3:0, 3:0, 3:0, 3:0|3:0, 3:0||0||0|0|1:1" + ones + "|1" + strings.Repeat(" 0", 59),
	} {
		if !impl.PathOk(p, readPath(t, text)) {
			t.Errorf("PathOk(%q) = false", text)
		}
	}
	for _, text := range []string{
		zeroPath, "3|3:0, 3:0, 3:0, 3:0|3:0, 3:0||0||0|0||", "-1|3:0, 3:0, 3:0, 3:0|3:0, 3:0||0||0|0||", "0|3:0, 3:0, 3:0|3:0, 3:0||0||0|0||", "0|3:0, 3:0, 3:0, 3:0, 3:0|3:0, 3:0||0||0|0||", "0|3:0, 3:0, 3:0, 3:0|3:0||0||0|0||",
		"0|3:0, 3:0, 3:0, 3:0|3:0, 3:0, 3:0||0||0|0||", "0|2:0, 3:0, 3:0, 3:0|3:0, 3:0||0||0|0||", "0|3:0, 3:0, 3:0, a:4|3:0, 3:0||0||0|0||", "0|3:0, 3:0, 3:0, 3:0|1:0, 3:0||0||0|0||", "0|3:0, 3:0, 3:0, 3:0|3:0, c:1||0||0|0||",
		"0|3:0, 3:0, 3:0, 3:0|3:0, 3:0|3|0||0|0||", "0|3:0, 3:0, 3:0, 3:0|3:0, 3:0|0 -1|0||0|0||", "0|3:0, 3:0, 3:0, 3:0|3:0, 3:0|0 0 0 0|0||0|0||", "0|3:0, 3:0, 3:0, 3:0|3:0, 3:0||2||0|0||", "0|3:0, 3:0, 3:0, 3:0|3:0, 3:0||-1||0|0||",
		"0|3:0, 3:0, 3:0, 3:0|3:0, 3:0||0|3:0, 3:0, 3:0, 3:0, 3:0, 3:0, 3:0|0|0||", "0|3:0, 3:0, 3:0, 3:0|3:0, 3:0||0|3:0, c:1|0|0||", "0|3:0, 3:0, 3:0, 3:0|3:0, 3:0||0||10|0||", "0|3:0, 3:0, 3:0, 3:0|3:0, 3:0||0||-1|0||",
		"0|3:0, 3:0, 3:0, 3:0|3:0, 3:0||0||0|401||", "0|3:0, 3:0, 3:0, 3:0|3:0, 3:0||0||0|-1||", "0|3:0, 3:0, 3:0, 3:0|3:0, 3:0||0||0|0|a:3|", "0|3:0, 3:0, 3:0, 3:0|3:0, 3:0||0||0|0|1:1, 2:1|", "0|3:0, 3:0, 3:0, 3:0|3:0, 3:0||0||0|0||2", "0|3:0, 3:0, 3:0, 3:0|3:0, 3:0||0||0|0||0 -1",
		"0|3:0, 3:0, 3:0, 3:0|3:0, 3:0||0||0|0|1:1, 1:1" + ones + "|", "0|3:0, 3:0, 3:0, 3:0|3:0, 3:0||0||0|0||1 1" + strings.Repeat(" 0", 59),
	} {
		if impl.PathOk(p, readPath(t, text)) {
			t.Errorf("PathOk(%q) = true", text)
		}
	}
}

func TestP7PathOkOfAny(t *testing.T) {
	m := maker{state: 223}
	for _, p := range somePrograms(60) {
		for range 10 {
			if s := m.path(p); !impl.PathOk(p, s) {
				t.Errorf("PathOk(%s, %s) = false", dumpProgram(p), textOfPath(s))
			}
		}
	}
	for _, p := range somePrograms(12) {
		for _, s := range badPaths(p) {
			if impl.PathOk(p, s) {
				t.Errorf("PathOk(%s, %.300s) = true", dumpProgram(p), textOfPath(s))
			}
		}
	}
	for _, p := range badPrograms() {
		for mem := range 7 {
			if impl.PathOk(p, impl.Path{Regs: repeatedTerm(constant(3, 0), 4), Mem: repeatedTerm(constant(3, 0), mem)}) {
				t.Errorf("PathOk(%.300s) = true", dumpProgram(p))
			}
		}
	}
}

type pathStep struct{ ins, before, after string }

// checkPathSteps has each instruction at place 1 of four, in a machine with words of 3 bits, 2 cells and an input.
func checkPathSteps(t *testing.T, steps []pathStep) {
	t.Helper()
	for _, c := range steps {
		p := readProgram(t, "3 2 1|jump 3|"+c.ins+"|jump 3|check r3")
		before := readPath(t, c.before)
		if got := textOfPaths(impl.StepPath(p, before)); got != c.after {
			t.Errorf("StepPath of %s after %s = %s, want %s", c.before, c.ins, got, c.after)
		}
		for code := 1; code <= 9; code++ {
			before.Code = code
			if got := impl.StepPath(p, before); len(got) != 0 {
				t.Errorf("StepPath of %s after %s = %s", textOfPath(before), c.ins, textOfPaths(got))
			}
		}
	}
}

// TestP7StepPathWithoutQuestions has the instructions for which there is always one path.
func TestP7StepPathWithoutQuestions(t *testing.T) {
	before := "1|a:3, 3:2, b:3, 3:0|m:3, 3:6|0|0|3:7|0|9|c:1|1"
	checkPathSteps(t, []pathStep{
		{"set r0 7", before, "2|3:7, 3:2, b:3, 3:0|m:3, 3:6|0|0|3:7|0|10|c:1|1"}, {"set r3 0", before, "2|a:3, 3:2, b:3, 3:0|m:3, 3:6|0|0|3:7|0|10|c:1|1"},
		{"move r3 r0", before, "2|a:3, 3:2, b:3, a:3|m:3, 3:6|0|0|3:7|0|10|c:1|1"}, {"move r0 r1", before, "2|3:2, 3:2, b:3, 3:0|m:3, 3:6|0|0|3:7|0|10|c:1|1"}, {"move r2 r2", before, "2|a:3, 3:2, b:3, 3:0|m:3, 3:6|0|0|3:7|0|10|c:1|1"},
		{"add r1 r1", before, "2|a:3, 3:4, b:3, 3:0|m:3, 3:6|0|0|3:7|0|10|c:1|1"}, {"add r0 r2", before, "2|(add a:3 b:3), 3:2, b:3, 3:0|m:3, 3:6|0|0|3:7|0|10|c:1|1"}, {"add r2 r0", before, "2|a:3, 3:2, (add a:3 b:3), 3:0|m:3, 3:6|0|0|3:7|0|10|c:1|1"}, {"add r0 r3", before, "2|a:3, 3:2, b:3, 3:0|m:3, 3:6|0|0|3:7|0|10|c:1|1"},
		{"sub r0 r2", before, "2|(sub a:3 b:3), 3:2, b:3, 3:0|m:3, 3:6|0|0|3:7|0|10|c:1|1"}, {"sub r2 r2", before, "2|a:3, 3:2, 3:0, 3:0|m:3, 3:6|0|0|3:7|0|10|c:1|1"}, {"sub r3 r1", before, "2|a:3, 3:2, b:3, 3:6|m:3, 3:6|0|0|3:7|0|10|c:1|1"},
		{"mul r0 r3", before, "2|3:0, 3:2, b:3, 3:0|m:3, 3:6|0|0|3:7|0|10|c:1|1"}, {"shl r0 r1", before, "2|(shl a:3 3:2), 3:2, b:3, 3:0|m:3, 3:6|0|0|3:7|0|10|c:1|1"}, {"sar r1 r0", before, "2|a:3, (sar 3:2 a:3), b:3, 3:0|m:3, 3:6|0|0|3:7|0|10|c:1|1"}, {"and r0 r0", before, "2|a:3, 3:2, b:3, 3:0|m:3, 3:6|0|0|3:7|0|10|c:1|1"},
		// These make a term of width 1, which is grown.
		{"eq r0 r2", before, "2|(grow 3 (eq a:3 b:3)), 3:2, b:3, 3:0|m:3, 3:6|0|0|3:7|0|10|c:1|1"}, {"eq r0 r0", before, "2|3:1, 3:2, b:3, 3:0|m:3, 3:6|0|0|3:7|0|10|c:1|1"}, {"eq r1 r3", before, "2|a:3, 3:0, b:3, 3:0|m:3, 3:6|0|0|3:7|0|10|c:1|1"}, {"eq r0 r1", before, "2|(grow 3 (eq 3:2 a:3)), 3:2, b:3, 3:0|m:3, 3:6|0|0|3:7|0|10|c:1|1"},
		{"less r2 r0", before, "2|a:3, 3:2, (grow 3 (less b:3 a:3)), 3:0|m:3, 3:6|0|0|3:7|0|10|c:1|1"}, {"less r0 r3", before, "2|3:0, 3:2, b:3, 3:0|m:3, 3:6|0|0|3:7|0|10|c:1|1"}, {"less r3 r1", before, "2|a:3, 3:2, b:3, 3:1|m:3, 3:6|0|0|3:7|0|10|c:1|1"},
		{"below r0 r3", before, "2|(grow 3 (below a:3 3:0)), 3:2, b:3, 3:0|m:3, 3:6|0|0|3:7|0|10|c:1|1"}, {"below r3 r1", before, "2|a:3, 3:2, b:3, 3:1|m:3, 3:6|0|0|3:7|0|10|c:1|1"},
		{"not r0", before, "2|(not a:3), 3:2, b:3, 3:0|m:3, 3:6|0|0|3:7|0|10|c:1|1"}, {"not r1", before, "2|a:3, 3:5, b:3, 3:0|m:3, 3:6|0|0|3:7|0|10|c:1|1"}, {"not r0", "1|(not a:3), 3:2, b:3, 3:0|m:3, 3:6||0||0|0||", "2|a:3, 3:2, b:3, 3:0|m:3, 3:6||0||0|1||"},
		{"in r1", before, "2|a:3, i0:3, b:3, 3:0|m:3, 3:6|0|1|3:7|0|10|c:1|1"}, {"in r1", "1|a:3, 3:2, b:3, 3:0|m:3, 3:6|0|1|3:7|0|9|c:1|1", "1|a:3, 3:2, b:3, 3:0|m:3, 3:6|0|1|3:7|3|10|c:1|1"},
		{"out r0", before, "2|a:3, 3:2, b:3, 3:0|m:3, 3:6|0|0|3:7, a:3|0|10|c:1|1"}, {"out r3", "1|a:3, 3:2, b:3, 3:0|m:3, 3:6||0||0|0||", "2|a:3, 3:2, b:3, 3:0|m:3, 3:6||0|3:0|0|1||"},
		{"out r2", "1|a:3, 3:2, b:3, 3:0|m:3, 3:6||0|3:0, 3:1, c:3, 3:3, 3:4|0|0||", "2|a:3, 3:2, b:3, 3:0|m:3, 3:6||0|3:0, 3:1, c:3, 3:3, 3:4, b:3|0|1||"}, {"out r2", "1|a:3, 3:2, b:3, 3:0|m:3, 3:6|2|1|3:0, 3:1, c:3, 3:3, 3:4, 3:5|0|0||", "1|a:3, 3:2, b:3, 3:0|m:3, 3:6|2|1|3:0, 3:1, c:3, 3:3, 3:4, 3:5|4|1||"},
		{"jump 3", before, "3|a:3, 3:2, b:3, 3:0|m:3, 3:6|0|0|3:7|0|10|c:1|1"}, {"jump 1", before, "1|a:3, 3:2, b:3, 3:0|m:3, 3:6|0|0|3:7|0|10|c:1|1"}, {"jump 4", before, "4|a:3, 3:2, b:3, 3:0|m:3, 3:6|0|0|3:7|0|10|c:1|1"},
		{"call 3", before, "3|a:3, 3:2, b:3, 3:0|m:3, 3:6|0 2|0|3:7|0|10|c:1|1"}, {"call 0", "1|a:3, 3:2, b:3, 3:0|m:3, 3:6|4 3|0||0|0||", "0|a:3, 3:2, b:3, 3:0|m:3, 3:6|4 3 2|0||0|1||"}, {"call 0", "1|a:3, 3:2, b:3, 3:0|m:3, 3:6|4 3 1|0||0|0||", "1|a:3, 3:2, b:3, 3:0|m:3, 3:6|4 3 1|0||7|1||"},
		{"ret", before, "0|a:3, 3:2, b:3, 3:0|m:3, 3:6||0|3:7|0|10|c:1|1"}, {"ret", "1|a:3, 3:2, b:3, 3:0|m:3, 3:6|1 2 4|0||0|0||", "4|a:3, 3:2, b:3, 3:0|m:3, 3:6|1 2|0||0|1||"}, {"ret", "1|a:3, 3:2, b:3, 3:0|m:3, 3:6||1|3:7|0|0|c:1|1", "1|a:3, 3:2, b:3, 3:0|m:3, 3:6||1|3:7|7|1|c:1|1"},
		{"halt", before, "1|a:3, 3:2, b:3, 3:0|m:3, 3:6|0|0|3:7|1|10|c:1|1"}, {"halt", "1|a:3, 3:2, b:3, 3:0|m:3, 3:6||0||0|399||", "1|a:3, 3:2, b:3, 3:0|m:3, 3:6||0||1|400||"},
		// Nothing happens.
		{"set r0 0", "1|a:3, 3:2, b:3, 3:0|m:3, 3:6||0||0|400||", ""}, {"zero r0 0", "1|a:3, 3:2, b:3, 3:0|m:3, 3:6||0||0|400||", ""}, {"set r0 0", "4|a:3, 3:2, b:3, 3:0|m:3, 3:6||0||0|400||", ""},
		// There is no instruction.
		{"set r0 0", "4|a:3, 3:2, b:3, 3:0|m:3, 3:6|1|1|3:7|0|9|c:1|1", "4|a:3, 3:2, b:3, 3:0|m:3, 3:6|1|1|3:7|2|9|c:1|1"}, {"set r0 0", "4|a:3, 3:2, b:3, 3:0|m:3, 3:6||0||0|399||", "4|a:3, 3:2, b:3, 3:0|m:3, 3:6||0||2|399||"}, {"set r0 0", "4|a:3, 3:2, b:3, 3:0|m:3, 3:6||0||0|0||", "4|a:3, 3:2, b:3, 3:0|m:3, 3:6||0||2|0||"},
	})
}

// TestP7StepPathOfQuestions has each question as a constant 0, as a constant 1 and as a fork.
func TestP7StepPathOfQuestions(t *testing.T) {
	before := "1|a:3, 3:2, b:3, 3:0|m:3, 3:6|0|0|3:7|0|9|c:1|0"
	checkPathSteps(t, []pathStep{
		{"zero r1 4", before, "2|a:3, 3:2, b:3, 3:0|m:3, 3:6|0|0|3:7|0|10|c:1|0"}, {"zero r3 4", before, "4|a:3, 3:2, b:3, 3:0|m:3, 3:6|0|0|3:7|0|10|c:1|0"}, {"zero r3 1", before, "1|a:3, 3:2, b:3, 3:0|m:3, 3:6|0|0|3:7|0|10|c:1|0"},
		{"zero r2 4", before, "4|a:3, 3:2, b:3, 3:0|m:3, 3:6|0|0|3:7|0|10|c:1, (eq 3:0 b:3)|0 1 & 2|a:3, 3:2, b:3, 3:0|m:3, 3:6|0|0|3:7|0|10|c:1, (not (eq 3:0 b:3))|0 0"},
		{"zero r0 0", "1|a:3, 3:2, b:3, 3:0|m:3, 3:6||0||0|0||", "0|a:3, 3:2, b:3, 3:0|m:3, 3:6||0||0|1|(eq 3:0 a:3)|1 & 2|a:3, 3:2, b:3, 3:0|m:3, 3:6||0||0|1|(not (eq 3:0 a:3))|0"},
		// Both paths go on at the same place; and the number of turns is none of the number of conditions.
		{"zero r0 2", "1|a:3, 3:2, b:3, 3:0|m:3, 3:6||1||0|399||1 0", "2|a:3, 3:2, b:3, 3:0|m:3, 3:6||1||0|400|(eq 3:0 a:3)|1 0 1 & 2|a:3, 3:2, b:3, 3:0|m:3, 3:6||1||0|400|(not (eq 3:0 a:3))|1 0 0"},
		// What stands for a constant is none before it is made simpler.
		{"zero r0 3", "1|(sub a:3 a:3), 3:2, b:3, 3:0|m:3, 3:6||0||0|0||", "3|(sub a:3 a:3), 3:2, b:3, 3:0|m:3, 3:6||0||0|1|(eq 3:0 (sub a:3 a:3))|1 & 2|(sub a:3 a:3), 3:2, b:3, 3:0|m:3, 3:6||0||0|1|(not (eq 3:0 (sub a:3 a:3)))|0"},
		{"check r1", before, "2|a:3, 3:2, b:3, 3:0|m:3, 3:6|0|0|3:7|0|10|c:1|0"}, {"check r3", before, "1|a:3, 3:2, b:3, 3:0|m:3, 3:6|0|0|3:7|8|10|c:1|0"},
		{"check r0", before, "1|a:3, 3:2, b:3, 3:0|m:3, 3:6|0|0|3:7|8|10|c:1, (eq 3:0 a:3)|0 1 & 2|a:3, 3:2, b:3, 3:0|m:3, 3:6|0|0|3:7|0|10|c:1, (not (eq 3:0 a:3))|0 0"},
		{"div r0 r1", before, "2|(div a:3 3:2), 3:2, b:3, 3:0|m:3, 3:6|0|0|3:7|0|10|c:1|0"}, {"rem r0 r1", before, "2|(rem a:3 3:2), 3:2, b:3, 3:0|m:3, 3:6|0|0|3:7|0|10|c:1|0"}, {"div r0 r3", before, "1|a:3, 3:2, b:3, 3:0|m:3, 3:6|0|0|3:7|6|10|c:1|0"}, {"rem r1 r3", before, "1|a:3, 3:2, b:3, 3:0|m:3, 3:6|0|0|3:7|6|10|c:1|0"},
		{"div r0 r2", before, "1|a:3, 3:2, b:3, 3:0|m:3, 3:6|0|0|3:7|6|10|c:1, (eq 3:0 b:3)|0 1 & 2|(div a:3 b:3), 3:2, b:3, 3:0|m:3, 3:6|0|0|3:7|0|10|c:1, (not (eq 3:0 b:3))|0 0"},
		{"rem r3 r2", before, "1|a:3, 3:2, b:3, 3:0|m:3, 3:6|0|0|3:7|6|10|c:1, (eq 3:0 b:3)|0 1 & 2|a:3, 3:2, b:3, (rem 3:0 b:3)|m:3, 3:6|0|0|3:7|0|10|c:1, (not (eq 3:0 b:3))|0 0"},
		{"div r2 r2", before, "1|a:3, 3:2, b:3, 3:0|m:3, 3:6|0|0|3:7|6|10|c:1, (eq 3:0 b:3)|0 1 & 2|a:3, 3:2, (div b:3 b:3), 3:0|m:3, 3:6|0|0|3:7|0|10|c:1, (not (eq 3:0 b:3))|0 0"}, {"div r1 r1", before, "2|a:3, 3:1, b:3, 3:0|m:3, 3:6|0|0|3:7|0|10|c:1|0"},
		{"load r0 r3", before, "2|m:3, 3:2, b:3, 3:0|m:3, 3:6|0|0|3:7|0|10|c:1|0"}, {"load r0 r0", "1|3:1, 3:2, b:3, 3:0|m:3, 3:6||0||0|0||", "2|3:6, 3:2, b:3, 3:0|m:3, 3:6||0||0|1||"}, {"load r0 r1", before, "1|a:3, 3:2, b:3, 3:0|m:3, 3:6|0|0|3:7|5|10|c:1|0"},
		{"load r1 r0", before, "1|a:3, 3:2, b:3, 3:0|m:3, 3:6|0|0|3:7|5|10|c:1, (not (less a:3 3:2))|0 1 & 2|a:3, (if (eq 3:0 a:3) m:3 3:6), b:3, 3:0|m:3, 3:6|0|0|3:7|0|10|c:1, (less a:3 3:2)|0 0"},
		{"load r0 r0", before, "1|a:3, 3:2, b:3, 3:0|m:3, 3:6|0|0|3:7|5|10|c:1, (not (less a:3 3:2))|0 1 & 2|(if (eq 3:0 a:3) m:3 3:6), 3:2, b:3, 3:0|m:3, 3:6|0|0|3:7|0|10|c:1, (less a:3 3:2)|0 0"},
		{"load r1 r0", "1|a:3, 3:2, b:3, 3:0|m:3, m:3||0||0|0||", "1|a:3, 3:2, b:3, 3:0|m:3, m:3||0||5|1|(not (less a:3 3:2))|1 & 2|a:3, m:3, b:3, 3:0|m:3, m:3||0||0|1|(less a:3 3:2)|0"},
		{"store r3 r0", before, "2|a:3, 3:2, b:3, 3:0|a:3, 3:6|0|0|3:7|0|10|c:1|0"}, {"store r3 r3", before, "2|a:3, 3:2, b:3, 3:0|3:0, 3:6|0|0|3:7|0|10|c:1|0"}, {"store r0 r2", "1|3:1, 3:2, b:3, 3:0|m:3, 3:6||0||0|0||", "2|3:1, 3:2, b:3, 3:0|m:3, b:3||0||0|1||"}, {"store r1 r0", before, "1|a:3, 3:2, b:3, 3:0|m:3, 3:6|0|0|3:7|5|10|c:1|0"},
		{"store r0 r1", before, "1|a:3, 3:2, b:3, 3:0|m:3, 3:6|0|0|3:7|5|10|c:1, (not (less a:3 3:2))|0 1 & 2|a:3, 3:2, b:3, 3:0|(if (eq 3:0 a:3) 3:2 m:3), (if (eq 3:1 a:3) 3:2 3:6)|0|0|3:7|0|10|c:1, (less a:3 3:2)|0 0"},
		{"store r2 r2", before, "1|a:3, 3:2, b:3, 3:0|m:3, 3:6|0|0|3:7|5|10|c:1, (not (less b:3 3:2))|0 1 & 2|a:3, 3:2, b:3, 3:0|(if (eq 3:0 b:3) b:3 m:3), (if (eq 3:1 b:3) b:3 3:6)|0|0|3:7|0|10|c:1, (less b:3 3:2)|0 0"},
	})
}

// TestP7StepPathOfCells has memory of one cell, of three and of as many as there may be.
func TestP7StepPathOfCells(t *testing.T) {
	for _, c := range []struct{ program, before, after string }{
		{"2 1 0|load r1 r0", "0|a:2, 2:0, 2:0, 2:0|m:2||0||0|0||", "0|a:2, 2:0, 2:0, 2:0|m:2||0||5|1|(not (less a:2 2:1))|1 & 1|a:2, m:2, 2:0, 2:0|m:2||0||0|1|(less a:2 2:1)|0"},
		{"2 1 0|store r0 r1", "0|a:2, 2:0, 2:0, 2:0|m:2||0||0|0||", "0|a:2, 2:0, 2:0, 2:0|m:2||0||5|1|(not (less a:2 2:1))|1 & 1|a:2, 2:0, 2:0, 2:0|(if (eq 2:0 a:2) 2:0 m:2)||0||0|1|(less a:2 2:1)|0"},
		{"2 1 0|load r1 r0", "0|2:0, 2:0, 2:0, 2:0|m:2||0||0|0||", "1|2:0, m:2, 2:0, 2:0|m:2||0||0|1||"}, {"2 1 0|load r1 r0", "0|2:1, 2:0, 2:0, 2:0|m:2||0||0|0||", "0|2:1, 2:0, 2:0, 2:0|m:2||0||5|1||"}, {"2 1 0|store r0 r1", "0|2:1, 2:0, 2:0, 2:0|m:2||0||0|0||", "0|2:1, 2:0, 2:0, 2:0|m:2||0||5|1||"},
		{"2 3 0|load r1 r0", "0|2:2, 2:0, 2:0, 2:0|x:2, y:2, z:2||0||0|0||", "1|2:2, z:2, 2:0, 2:0|x:2, y:2, z:2||0||0|1||"}, {"2 3 0|load r1 r0", "0|2:3, 2:0, 2:0, 2:0|x:2, y:2, z:2||0||0|0||", "0|2:3, 2:0, 2:0, 2:0|x:2, y:2, z:2||0||5|1||"},
		{"2 3 0|load r1 r0", "0|a:2, 2:0, 2:0, 2:0|x:2, y:2, z:2||0||0|0||", "0|a:2, 2:0, 2:0, 2:0|x:2, y:2, z:2||0||5|1|(not (less a:2 2:3))|1 & 1|a:2, (if (eq 2:0 a:2) x:2 (if (eq 2:1 a:2) y:2 z:2)), 2:0, 2:0|x:2, y:2, z:2||0||0|1|(less a:2 2:3)|0"},
		{"2 3 0|store r0 r1", "0|2:2, 2:1, 2:0, 2:0|x:2, y:2, z:2||0||0|0||", "1|2:2, 2:1, 2:0, 2:0|x:2, y:2, 2:1||0||0|1||"},
		{"2 3 0|store r0 r1", "0|a:2, b:2, 2:0, 2:0|x:2, b:2, z:2||0||0|0||", "0|a:2, b:2, 2:0, 2:0|x:2, b:2, z:2||0||5|1|(not (less a:2 2:3))|1 & 1|a:2, b:2, 2:0, 2:0|(if (eq 2:0 a:2) b:2 x:2), b:2, (if (eq 2:2 a:2) b:2 z:2)||0||0|1|(less a:2 2:3)|0"},
		{
			"4 6 0|load r0 r0", "0|a:4, 4:0, 4:0, 4:0|4:1, 4:2, 4:3, 4:4, 4:5, 4:6||0||0|0||",
			"0|a:4, 4:0, 4:0, 4:0|4:1, 4:2, 4:3, 4:4, 4:5, 4:6||0||5|1|(not (less a:4 4:6))|1 & 1|(if (eq 4:0 a:4) 4:1 (if (eq 4:1 a:4) 4:2 (if (eq 4:2 a:4) 4:3 (if (eq 4:3 a:4) 4:4 (if (eq 4:4 a:4) 4:5 4:6))))), 4:0, 4:0, 4:0|4:1, 4:2, 4:3, 4:4, 4:5, 4:6||0||0|1|(less a:4 4:6)|0",
		},
		// The inputs have names of their own.
		{"8 1 3|in r3", "0|8:0, 8:0, 8:0, 8:0|8:0||0||0|0||", "1|8:0, 8:0, 8:0, i0:8|8:0||1||0|1||"}, {"8 1 3|in r3", "0|8:0, 8:0, 8:0, 8:0|8:0||1||0|0||", "1|8:0, 8:0, 8:0, i1:8|8:0||2||0|1||"}, {"8 1 3|in r3", "0|8:0, 8:0, 8:0, 8:0|8:0||2||0|0||", "1|8:0, 8:0, 8:0, i2:8|8:0||3||0|1||"}, {"8 1 3|in r3", "0|8:0, 8:0, 8:0, 8:0|8:0||3||0|0||", "0|8:0, 8:0, 8:0, 8:0|8:0||3||3|1||"},
		{"8 1 0|in r3", "0|8:0, 8:0, 8:0, 8:0|8:0||0||0|0||", "0|8:0, 8:0, 8:0, 8:0|8:0||0||3|1||"},
	} {
		p := readProgram(t, c.program)
		if got := textOfPaths(impl.StepPath(p, readPath(t, c.before))); got != c.after {
			t.Errorf("StepPath(%q, %s) = %s, want %s", c.program, c.before, got, c.after)
		}
	}
}

// TestP7StepPathWithManyConditions has paths with as many conditions or turns as there may be, and with one less.
func TestP7StepPathWithManyConditions(t *testing.T) {
	for _, text := range []string{"zero r0 3", "check r0", "div r1 r0", "rem r1 r0", "load r1 r0", "store r0 r1", "zero r2 3", "check r2", "div r1 r2", "load r1 r2", "store r2 r1", "zero r3 3", "check r3", "div r1 r3", "load r1 r3", "store r3 r1", "not r0"} {
		p := readProgram(t, "3 2 1|jump 3|"+text+"|jump 3|check r3")
		for conds := 58; conds <= 60; conds++ {
			for turns := 58; turns <= 60; turns++ {
				s := readPath(t, "1|a:3, 3:5, 3:1, 3:7|m:3, 3:6|0|0|3:7|0|9||")
				s.Cond, s.Turns = repeatedTerm(variable(1, "c"), conds), repeated(1, turns)
				got := impl.StepPath(p, s)
				full := conds == 60 || turns == 60
				switch {
				case !strings.HasSuffix(text, "r0") && !strings.Contains(text, "r0 ") || text == "not r0":
					if len(got) != 1 || got[0].Code == impl.CodeBig || len(got[0].Cond) != conds || len(got[0].Turns) != turns {
						t.Errorf("StepPath after %s with %d conditions and %d turns = %s", text, conds, turns, textOfPaths(got))
					}
				case full:
					s.Steps, s.Code = 10, impl.CodeBig
					if textOfPaths(got) != textOfPath(s) {
						t.Errorf("StepPath after %s with %d conditions and %d turns = %s", text, conds, turns, textOfPaths(got))
					}
				default:
					if len(got) != 2 || len(got[0].Cond) != conds+1 || len(got[1].Turns) != turns+1 || !slices.Equal(got[0].Turns, repeated(1, turns+1)) || !slices.Equal(got[1].Turns, append(repeated(1, turns), 0)) {
						t.Errorf("StepPath after %s with %d conditions and %d turns = %s", text, conds, turns, textOfPaths(got))
					}
				}
			}
		}
	}
}

// TestP7StepPathOfBigTerms has in r0 a term of so many nodes that the terms that are needed have just room, and one of one node more.
func TestP7StepPathOfBigTerms(t *testing.T) {
	for _, c := range []struct {
		program string
		room    int
		paths   int
	}{
		// The question has two nodes more, and its opposite one more than that.
		{"3 2 1|zero r0 1", 237, 2}, {"3 2 1|check r0", 237, 2},
		// The second path alone needs a term that is greater than the questions.
		{"3 2 1|div r1 r0", 237, 2}, {"3 2 1|div r2 r0", 236, 2}, {"3 2 1|rem r0 r0", 119, 2}, {"3 2 1|rem r0 r2", 236, 2}, {"3 2 1|load r1 r0", 235, 2}, {"3 3 1|load r1 r0", 115, 2}, {"3 2 1|store r0 r1", 235, 2}, {"3 2 1|store r0 r2", 233, 2}, {"3 2 1|store r0 r0", 118, 2}, {"3 2 1|store r2 r0", 233, 2},
		// With one cell, only the question and its opposite count.
		{"3 1 1|load r1 r0", 236, 2}, {"3 1 1|store r0 r1", 235, 2},
		{"3 2 1|add r0 r2", 236, 1}, {"3 2 1|add r0 r0", 119, 1}, {"3 2 1|not r0", 239, 1}, {"3 2 1|eq r0 r1", 237, 1}, {"3 2 1|less r1 r0", 237, 1}, {"3 2 1|below r0 r2", 235, 1}, {"3 2 1|sub r0 r3", 238, 1}, {"3 2 1|mul r3 r0", 238, 1}, {"3 2 1|div r0 r1", 238, 1}, {"3 2 1|rem r0 r1", 238, 1},
		// These make no term.
		{"3 2 1|move r1 r0", 240, 1}, {"3 2 1|out r0", 240, 1}, {"3 2 1|store r3 r0", 240, 1}, {"3 2 1|load r0 r3", 240, 1}, {"3 2 1|zero r3 1", 240, 1}, {"3 2 1|check r1", 240, 1}, {"3 2 1|load r0 r1", 240, 1}, {"3 2 1|store r1 r0", 240, 1}, {"3 2 1|in r0", 240, 1}, {"3 2 1|set r0 1", 240, 1}, {"3 2 1|div r0 r3", 240, 1}, {"3 2 1|rem r0 r3", 240, 1}, {"3 2 1|halt", 240, 1}, {"3 2 1|ret", 240, 1}, {"3 2 1|call 0", 240, 1},
	} {
		p := readProgram(t, c.program)
		for _, n := range []int{20, c.room - 1, c.room, c.room + 1, 239, 240} {
			if n > 240 {
				continue
			}
			s := impl.Path{Regs: []impl.Term{sized(3, n), constant(3, 5), node(impl.OpXor, 3, 0, variable(3, "a"), variable(3, "b")), constant(3, 0)}, Mem: repeatedTerm(variable(3, "m"), p.Mem), Cond: []impl.Term{variable(1, "c")}, Turns: []int{0}}
			for k := range s.Mem {
				// Cells that differ, so that no OpIf can be left out.
				s.Mem[k] = variable(3, "m"+string(rune('0'+k)))
			}
			got := impl.StepPath(p, s)
			if n <= c.room {
				if len(got) != c.paths || got[0].Code == impl.CodeBig || got[c.paths-1].Code == impl.CodeBig {
					t.Errorf("StepPath(%q) with %d nodes = %s", c.program, n, textOfPaths(got))
				}
				continue
			}
			s.Steps, s.Code = 1, impl.CodeBig
			if textOfPaths(got) != textOfPath(s) {
				t.Errorf("StepPath(%q) with %d nodes = %s", c.program, n, textOfPaths(got))
			}
		}
	}
}

// TestP7StepPathOfBigCells has in the first of two cells a term of so many nodes that the terms that are needed have just room, and one of one node more.
func TestP7StepPathOfBigCells(t *testing.T) {
	for _, c := range []struct {
		ins   string
		room  int
		paths int
	}{
		// An index that is a constant needs no term.
		{"load r0 r3", 240, 1}, {"load r0 r1", 240, 1}, {"store r3 r2", 240, 1}, {"store r1 r2", 240, 1}, {"load r0 r0", 240, 1}, {"load r1 r2", 233, 2}, {"load r2 r2", 233, 2}, {"store r2 r3", 233, 2}, {"store r2 r2", 231, 2},
	} {
		p := readProgram(t, "3 2 1|"+c.ins)
		for n := 225; n <= 240; n++ {
			s := impl.Path{Regs: []impl.Term{constant(3, 2), constant(3, 1), node(impl.OpXor, 3, 0, variable(3, "a"), variable(3, "b")), constant(3, 0)}, Mem: []impl.Term{sized(3, n), variable(3, "m")}}
			got := impl.StepPath(p, s)
			if n <= c.room {
				if len(got) != c.paths || got[0].Code == impl.CodeBig || c.ins == "load r0 r3" && !alike(got[0].Regs[0], s.Mem[0]) {
					t.Errorf("StepPath after %s with %d nodes = %s", c.ins, n, textOfPaths(got))
				}
				continue
			}
			s.Steps, s.Code = 1, impl.CodeBig
			if textOfPaths(got) != textOfPath(s) {
				t.Errorf("StepPath after %s with %d nodes = %s", c.ins, n, textOfPaths(got))
			}
		}
	}
}

// TestP7StepPathOfClashes has terms that are valid alone, but not in one term: their variables have different widths.
func TestP7StepPathOfClashes(t *testing.T) {
	for _, text := range []string{"add r0 r1", "div r0 r1", "eq r1 r0", "store r0 r1", "load r2 r0"} {
		p := readProgram(t, "3 2 1|"+text)
		s := readPath(t, "0|a:3, (grow 3 a:2), 3:0, 3:0|(stretch 3 a:1), 3:0||0||0|5|c:1|1")
		want := "0|a:3, (grow 3 a:2), 3:0, 3:0|(stretch 3 a:1), 3:0||0||9|6|c:1|1"
		if got := textOfPaths(impl.StepPath(p, s)); got != want {
			t.Errorf("StepPath after %s = %s", text, got)
		}
	}
	// Conditions are never put together by a step.
	p := readProgram(t, "3 2 1|zero r0 0")
	s := readPath(t, "0|a:3, 3:0, 3:0, 3:0|3:0, 3:0||0||0|5|a:1, (eq a:9 b:9)|1")
	want := "0|a:3, 3:0, 3:0, 3:0|3:0, 3:0||0||0|6|a:1, (eq a:9 b:9), (eq 3:0 a:3)|1 1 & 1|a:3, 3:0, 3:0, 3:0|3:0, 3:0||0||0|6|a:1, (eq a:9 b:9), (not (eq 3:0 a:3))|1 0"
	if got := textOfPaths(impl.StepPath(p, s)); got != want {
		t.Errorf("StepPath = %s", got)
	}
}

// TestP7StepPathOfAny compares with the document's text for any instruction and any path.
func TestP7StepPathOfAny(t *testing.T) {
	m := maker{state: 227}
	found := map[string]int{}
	for _, p := range slices.Concat(somePrograms(400), forkingPrograms(400)) {
		for range 25 {
			s := m.path(p)
			want := slowPaths(p, s)
			got := impl.StepPath(p, s)
			if textOfPaths(got) != textOfPaths(want) {
				t.Errorf("StepPath(%s, %s) = %s, want %s", dumpProgram(p), textOfPath(s), textOfPaths(got), textOfPaths(want))
			}
			if len(want) > 0 {
				found[string(rune('0'+len(want)))+" "+impl.CodeName(want[0].Code)]++
			}
			for _, after := range got {
				if !impl.PathOk(p, after) {
					t.Errorf("StepPath(%s, %s) has the path %s", dumpProgram(p), textOfPath(s), textOfPath(after))
				}
			}
		}
	}
	for _, kind := range []string{"1 running", "1 halted", "1 end", "1 input", "1 output", "1 address", "1 division", "1 stack", "1 check", "1 big", "2 running", "2 address", "2 division", "2 check"} {
		if found[kind] < 20 {
			t.Errorf("only %d cases of %s", found[kind], kind)
		}
	}
}

// TestP7StepPathDivides compares the paths after a step with the next states, for each test for which the path held.
func TestP7StepPathDivides(t *testing.T) {
	m := maker{state: 229}
	held, forks := 0, 0
	for _, p := range forkingPrograms(500) {
		for range 4 {
			s := m.path(p)
			next := impl.StepPath(p, s)
			for _, in := range allWords(p) {
				before, ok := impl.EvalPath(p, s, in)
				if !ok || len(next) == 0 || next[0].Code == impl.CodeBig {
					continue
				}
				held++
				forks += len(next) - 1
				holding := slices.DeleteFunc(slices.Clone(next), func(after impl.Path) bool { return !impl.HoldsPath(p, after, in) })
				if len(holding) != 1 {
					t.Errorf("%d of the paths after a step of %s hold for %v", len(holding), textOfPath(s), in)
					continue
				}
				want := textOfState(impl.StepState(p, before, in))
				if got, ok := impl.EvalPath(p, holding[0], in); !ok || textOfState(got) != want {
					t.Errorf("after a step of %s, the path for %v has the state %s, %v, want %s", textOfPath(s), in, textOfState(got), ok, want)
				}
			}
		}
	}
	if held < 5000 || forks < 2000 {
		t.Errorf("only %d paths held, and %d forks", held, forks)
	}
}

func TestP7StepPathInvalid(t *testing.T) {
	p := readProgram(t, "3 2 1|in r0|halt")
	if got := textOfPaths(impl.StepPath(p, slowStartPath(p))); got != "1|i0:3, 3:0, 3:0, 3:0|3:0, 3:0||1||0|1||" {
		t.Errorf("StepPath = %s", got)
	}
	for _, s := range badPaths(p) {
		if got := impl.StepPath(p, s); len(got) != 0 {
			t.Errorf("StepPath(%.300s) = %.300s", textOfPath(s), textOfPaths(got))
		}
	}
	for _, bad := range badPrograms() {
		if got := impl.StepPath(bad, slowStartPath(p)); len(got) != 0 {
			t.Errorf("StepPath(%.300s) = %.300s", dumpProgram(bad), textOfPaths(got))
		}
	}
}
