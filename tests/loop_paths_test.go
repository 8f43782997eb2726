package tests

import (
	"slices"
	"strconv"
	"strings"
	"testing"

	"loop.example/g03219/impl"
)

// countdown has a loop at the place 2 that is run as often as the input says.
const countdown = "3 1 1|in r0|set r1 1|zero r0 5|sub r0 r1|jump 2|halt"

func TestP9VisitsOf(t *testing.T) {
	three := []string{"2|2 1 0 0|0||1||0|2", "2|1 1 0 0|0||1||0|5", "2|0 1 0 0|0||1||0|8"}
	for _, c := range []struct {
		program  string
		in       []int
		fuel, pc int
		want     string
	}{
		// Often.
		{countdown, []int{2}, 0, 2, ""}, {countdown, []int{2}, 1, 2, ""}, {countdown, []int{2}, 2, 2, three[0]}, {countdown, []int{2}, 4, 2, three[0]}, {countdown, []int{2}, 5, 2, strings.Join(three[:2], " & ")}, {countdown, []int{2}, 7, 2, strings.Join(three[:2], " & ")},
		{countdown, []int{2}, 8, 2, strings.Join(three, " & ")}, {countdown, []int{2}, 9, 2, strings.Join(three, " & ")}, {countdown, []int{2}, 10, 2, strings.Join(three, " & ")}, {countdown, []int{2}, 11, 2, strings.Join(three, " & ")}, {countdown, []int{2}, 400, 2, strings.Join(three, " & ")}, {countdown, []int{0}, 400, 2, "2|0 1 0 0|0||1||0|2"},
		// Once; the state with the Code CodeHalt at the same place is no visit.
		{countdown, []int{2}, 8, 5, ""}, {countdown, []int{2}, 9, 5, "5|0 1 0 0|0||1||0|9"}, {countdown, []int{2}, 10, 5, "5|0 1 0 0|0||1||0|9"}, {countdown, []int{2}, 400, 5, "5|0 1 0 0|0||1||0|9"}, {"3 1 0|halt", nil, 400, 0, "0|0 0 0 0|0||0||0|0"}, {"3 1 0|not r1|check r0", nil, 400, 1, "1|0 7 0 0|0||0||0|1"},
		// Never.
		{countdown, []int{2}, 400, 6, ""}, {countdown, []int{0}, 400, 3, ""}, {"3 1 0|jump 2|halt|halt", nil, 400, 1, ""},
		// The place 0, which comes before all steps.
		{countdown, []int{2}, 0, 0, "0|0 0 0 0|0||0||0|0"}, {countdown, []int{2}, 400, 0, "0|0 0 0 0|0||0||0|0"}, {"3 1 0|jump 0", nil, 0, 0, "0|0 0 0 0|0||0||0|0"}, {"3 1 0|jump 0", nil, 2, 0, "0|0 0 0 0|0||0||0|0 & 0|0 0 0 0|0||0||0|1 & 0|0 0 0 0|0||0||0|2"},
		// The place behind the last instruction, before the step that makes the Code CodeEnd.
		{"3 1 0|not r0", nil, 0, 1, ""}, {"3 1 0|not r0", nil, 1, 1, "1|7 0 0 0|0||0||0|1"}, {"3 1 0|not r0", nil, 2, 1, "1|7 0 0 0|0||0||0|1"}, {"3 1 0|not r0", nil, 400, 1, "1|7 0 0 0|0||0||0|1"}, {"3 1 0|jump 1", nil, 400, 1, "1|0 0 0 0|0||0||0|1"},
		// Calls, outputs and inputs.
		{"3 1 0|call 2|halt|ret", nil, 400, 2, "2|0 0 0 0|0|1|0||0|1"}, {"3 1 0|call 2|halt|ret", nil, 400, 1, "1|0 0 0 0|0||0||0|2"}, {"3 1 0|call 0", nil, 400, 0, "0|0 0 0 0|0||0||0|0 & 0|0 0 0 0|0|1|0||0|1 & 0|0 0 0 0|0|1 1|0||0|2 & 0|0 0 0 0|0|1 1 1|0||0|3"}, {"3 1 2|in r0|out r0|jump 0", []int{3, 4}, 400, 0, "0|0 0 0 0|0||0||0|0 & 0|3 0 0 0|0||1|3|0|3 & 0|4 0 0 0|0||2|3 4|0|6"},
		{"3 2 1|in r1|store r0 r1|not r0|jump 3", []int{5}, 4, 3, "3|7 5 0 0|5 0||1||0|3 & 3|7 5 0 0|5 0||1||0|4"},
	} {
		p := readProgram(t, c.program)
		if got := textOfStates(impl.VisitsOf(p, c.in, c.fuel, c.pc)); got != c.want {
			t.Errorf("VisitsOf(%q, %v, %d, %d) = %s, want %s", c.program, c.in, c.fuel, c.pc, got, c.want)
		}
	}
	p := readProgram(t, "3 1 0|jump 0")
	for _, fuel := range []int{0, 1, 17, 399, 400} {
		l := impl.VisitsOf(p, nil, fuel, 0)
		if len(l) != fuel+1 || l[fuel].Steps != fuel {
			t.Errorf("VisitsOf with %d steps has %d states", fuel, len(l))
		}
	}
}

func TestP9VisitsOfAny(t *testing.T) {
	m := maker{state: 443}
	looping, _ := loopingPrograms(150)
	visits := map[int]int{}
	for _, p := range slices.Concat(looping, somePrograms(200), callingPrograms(100)) {
		in := m.inputs(p)
		for pc := range len(p.Code) + 1 {
			fuel := []int{0, m.below(8), 8 + m.below(50), 400}[m.below(4)]
			got, want := impl.VisitsOf(p, in, fuel, pc), slowVisits(p, in, fuel, pc)
			if textOfStates(got) != textOfStates(want) {
				t.Errorf("VisitsOf(%s, %v, %d, %d) = %s, want %s", dumpProgram(p), in, fuel, pc, textOfStates(got), textOfStates(want))
			}
			visits[min(len(got), 2)]++
		}
	}
	if visits[0] < 300 || visits[1] < 300 || visits[2] < 150 {
		t.Errorf("the numbers of visits are %v", visits)
	}
}

func TestP9VisitsOfInvalid(t *testing.T) {
	mustBeEmpty := func(p impl.Program, in []int, fuel, pc int) {
		t.Helper()
		if got := impl.VisitsOf(p, in, fuel, pc); len(got) != 0 {
			t.Errorf("VisitsOf(%.300s, %.100s, %d, %d) = %s", dumpProgram(p), textOfInts(in), fuel, pc, textOfStates(got))
		}
	}
	p := readProgram(t, "3 1 1|jump 0|halt")
	for _, fuel := range badFuels {
		mustBeEmpty(p, []int{1}, fuel, 0)
	}
	for _, pc := range append([]int{3, 4, 40}, badPlaces...) {
		mustBeEmpty(p, []int{1}, 5, pc)
	}
	for _, in := range badLists(3, 1) {
		mustBeEmpty(p, in, 5, 0)
	}
	for _, bad := range badPrograms() {
		for n := range 3 {
			mustBeEmpty(bad, make([]int, n), 5, 0)
		}
	}
}

// A loopCase is a call of EntryPaths or BodyPaths with the least fuel that suffices, and what it gives.
type loopCase struct {
	program, facts string
	pc, fuel       int
	want           string
}

// check calls EntryPaths or BodyPaths with just enough room and with more, and with too little.
func (c loopCase) check(t *testing.T, name string, paths func(p impl.Program, pc int, l []impl.Fact, fuel, most int) ([]impl.Path, bool)) {
	t.Helper()
	p := readProgram(t, c.program)
	l := readFacts(t, p.W, c.facts)
	count := strings.Count(c.want, "&") + 1
	for _, fuel := range []int{c.fuel - 1, c.fuel, c.fuel + 1, 400} {
		for _, most := range []int{count - 1, count, count + 1, 64} {
			got, ok := paths(p, c.pc, l, fuel, most)
			fine := fuel >= c.fuel && most >= count
			if ok != fine || ok && textOfPaths(got) != c.want || !ok && len(got) > 0 {
				t.Errorf("%s(%q, %d, %s, %d, %d) = %s, %v, want %s", name, c.program, c.pc, c.facts, fuel, most, textOfPaths(got), ok, c.want)
			}
		}
	}
}

func entryPaths(p impl.Program, pc int, _ []impl.Fact, fuel, most int) ([]impl.Path, bool) {
	return impl.EntryPaths(p, pc, fuel, most)
}

func TestP9EntryPaths(t *testing.T) {
	start := "0|3:0, 3:0, 3:0, 3:0|3:0||0||0|0||"
	for _, c := range []loopCase{
		// At once.
		{countdown, "", 0, 0, start}, {"3 1 0|jump 0", "", 0, 0, start}, {"3 1 0|halt", "", 0, 0, start}, {"3 1 1|in r0|zero r0 0|check r0", "", 0, 0, start}, {"3 1 0|in r0", "", 0, 0, start}, {countdown, "", 1, 1, "1|i0:3, 3:0, 3:0, 3:0|3:0||1||0|1||"}, {countdown, "", 2, 2, "2|i0:3, 3:1, 3:0, 3:0|3:0||1||0|2||"},
		// Behind a fork, where one path arrives and the other one does not.
		{countdown, "", 3, 4, "5|i0:3, 3:1, 3:0, 3:0|3:0||1||1|4|(eq 3:0 i0:3)|1 & 3|i0:3, 3:1, 3:0, 3:0|3:0||1||0|3|(not (eq 3:0 i0:3))|0"}, {"3 1 1|in r0|check r0|set r1 2|zero r1 0|not r2", "", 4, 4, "1|i0:3, 3:0, 3:0, 3:0|3:0||1||8|2|(eq 3:0 i0:3)|1 & 4|i0:3, 3:2, 3:0, 3:0|3:0||1||0|4|(not (eq 3:0 i0:3))|0"},
		{"3 2 1|in r0|load r1 r0|halt", "", 2, 2, "1|i0:3, 3:0, 3:0, 3:0|3:0, 3:0||1||5|2|(not (less i0:3 3:2))|1 & 2|i0:3, 3:0, 3:0, 3:0|3:0, 3:0||1||0|2|(less i0:3 3:2)|0"}, {"3 2 1|in r0|div r1 r0|halt", "", 2, 2, "1|i0:3, 3:0, 3:0, 3:0|3:0, 3:0||1||6|2|(eq 3:0 i0:3)|1 & 2|i0:3, (div 3:0 i0:3), 3:0, 3:0|3:0, 3:0||1||0|2|(not (eq 3:0 i0:3))|0"},
		{"3 1 1|in r0|zero r0 3|halt|check r0", "", 4, 3, "3|i0:3, 3:0, 3:0, 3:0|3:0||1||8|3|(eq 3:0 i0:3), (eq 3:0 i0:3)|1 1 & 4|i0:3, 3:0, 3:0, 3:0|3:0||1||0|3|(eq 3:0 i0:3), (not (eq 3:0 i0:3))|1 0 & 2|i0:3, 3:0, 3:0, 3:0|3:0||1||1|3|(not (eq 3:0 i0:3))|0"},
		// Both arrive, one of them with a step more.
		{"3 1 1|in r0|zero r0 3|not r1|halt", "", 3, 3, "3|i0:3, 3:0, 3:0, 3:0|3:0||1||0|2|(eq 3:0 i0:3)|1 & 3|i0:3, 3:7, 3:0, 3:0|3:0||1||0|3|(not (eq 3:0 i0:3))|0"},
		// Never reached: all paths end elsewhere.
		{"3 1 1|in r0|zero r0 3|halt|halt|not r1", "", 4, 3, "3|i0:3, 3:0, 3:0, 3:0|3:0||1||1|3|(eq 3:0 i0:3)|1 & 2|i0:3, 3:0, 3:0, 3:0|3:0||1||1|3|(not (eq 3:0 i0:3))|0"}, {"3 1 0|jump 2|halt|not r0", "", 1, 3, "3|3:7, 3:0, 3:0, 3:0|3:0||0||2|2||"}, {"3 1 0|halt|halt", "", 1, 1, "0|3:0, 3:0, 3:0, 3:0|3:0||0||1|1||"}, {"3 1 0|set r0 0|check r0|halt", "", 2, 2, "1|3:0, 3:0, 3:0, 3:0|3:0||0||8|2||"},
		{"3 1 0|in r0", "", 1, 1, "0|3:0, 3:0, 3:0, 3:0|3:0||0||3|1||"}, {"3 1 0|out r0|out r0|out r0|out r0|out r0|out r0|out r0", "", 7, 7, "6|3:0, 3:0, 3:0, 3:0|3:0||0|3:0, 3:0, 3:0, 3:0, 3:0, 3:0|4|7||"}, {"3 1 0|load r0 r1|halt", "", 2, 2, "1|3:0, 3:0, 3:0, 3:0|3:0||0||1|2||"},
		// Behind the last instruction, before the step that makes the Code CodeEnd.
		{"3 1 1|in r0|not r0", "", 2, 2, "2|(not i0:3), 3:0, 3:0, 3:0|3:0||1||0|2||"}, {"3 1 0|jump 1", "", 1, 1, "1|3:0, 3:0, 3:0, 3:0|3:0||0||0|1||"},
		// Inputs and outputs are those of a run.
		{"3 1 2|in r0|in r1|out r1|out r0|halt", "", 4, 4, "4|i0:3, i1:3, 3:0, 3:0|3:0||2|i1:3, i0:3|0|4||"},
		// Around a loop whose words are known.
		{"3 1 0|set r0 2|set r1 1|zero r0 6|sub r0 r1|jump 2|halt|halt", "", 6, 9, "6|3:0, 3:1, 3:0, 3:0|3:0||0||0|9||"},
	} {
		c.check(t, "EntryPaths", entryPaths)
	}
}

func mustHaveNoEntry(t *testing.T, p impl.Program, pc, fuel, most int) {
	t.Helper()
	if got, ok := impl.EntryPaths(p, pc, fuel, most); ok || len(got) != 0 {
		t.Errorf("EntryPaths(%.300s, %d, %d, %d) = %s, %v", dumpProgram(p), pc, fuel, most, textOfPaths(got), ok)
	}
}

func mustHaveNoBody(t *testing.T, p impl.Program, pc int, l []impl.Fact, fuel, most int) {
	t.Helper()
	if got, ok := impl.BodyPaths(p, pc, l, fuel, most); ok || len(got) != 0 {
		t.Errorf("BodyPaths(%.300s, %d, %s, %d, %d) = %s, %v", dumpProgram(p), pc, textOfFacts(l), fuel, most, textOfPaths(got), ok)
	}
}

// callingTexts are programs with an InsCall or InsRet anywhere, also where it is never reached.
var callingTexts = []string{
	"3 1 0|call 0", "3 1 0|ret", "3 1 0|halt|ret", "3 1 0|halt|call 1", "3 1 0|jump 0|call 0", "3 1 0|call 2|halt|ret", "3 1 0|jump 0|ret|halt", "3 1 1|in r0|zero r0 0|halt|halt|halt|halt|ret", "3 1 1|ret|in r0|halt",
}

func TestP9EntryPathsFails(t *testing.T) {
	for _, text := range callingTexts {
		for pc := range 2 {
			mustHaveNoEntry(t, readProgram(t, text), pc, 400, 64)
			mustHaveNoEntry(t, readProgram(t, text), pc, 0, 1)
		}
	}
	for _, c := range []struct {
		program        string
		pc, fuel, most int
	}{
		// A run that never ends without arriving.
		{"3 1 0|jump 0|halt", 1, 400, 64}, {"3 1 0|jump 0", 1, 400, 64}, {countdown, 6, 400, 64}, {"3 1 1|in r0|zero r0 4|not r1|halt|jump 4", 3, 400, 64},
		// A term that is too big on one path, also where all others arrive before.
		{"3 1 1|in r0" + doubled("r0", 7) + "|halt", 9, 400, 64}, {"3 1 1|in r0|zero r0 3|halt|not r1" + doubled("r0", 7) + "|halt", 2, 400, 64}, {"3 1 1|in r0" + doubled("r0", 7) + "|halt", 8, 8, 64},
		// Too many ends.
		{"3 1 1|in r0" + zeros(1, 7) + "|halt", 8, 400, 64}, {"3 1 1|in r0|zero r0 2|zero r0 3|zero r0 4|halt", 4, 400, 7},
	} {
		mustHaveNoEntry(t, readProgram(t, c.program), c.pc, c.fuel, c.most)
	}
	for text, pc := range map[string]int{"3 1 1|in r0" + zeros(1, 6) + "|halt": 7, "3 1 1|in r0" + zeros(1, 6): 7, "3 1 1|in r0" + doubled("r0", 6) + "|mul r0 r0|halt": 7} {
		l, ok := impl.EntryPaths(readProgram(t, text), pc, 7, 64)
		if !ok || len(l) != 64 && len(l) != 1 {
			t.Errorf("EntryPaths of %q has %d ends, %v", text, len(l), ok)
		}
	}
}

func TestP9EntryPathsInvalid(t *testing.T) {
	checkInvalidLoops(t, "EntryPaths", func(p impl.Program, pc, fuel, most int) bool {
		l, ok := impl.EntryPaths(p, pc, fuel, most)
		return ok || len(l) != 0
	})
}

// checkInvalidLoops calls a function of a place with each argument that is not valid; it reports whether there is a result.
func checkInvalidLoops(t *testing.T, name string, call func(p impl.Program, pc, fuel, most int) bool) {
	t.Helper()
	mustFail := func(p impl.Program, pc, fuel, most int) {
		t.Helper()
		if call(p, pc, fuel, most) {
			t.Errorf("%s(%.300s, %d, %d, %d) has a result", name, dumpProgram(p), pc, fuel, most)
		}
	}
	p := readProgram(t, "3 1 0|jump 0|halt")
	if !call(p, 0, 1, 1) {
		t.Errorf("%s of valid arguments has no result", name)
	}
	for _, fuel := range badFuels {
		mustFail(p, 0, fuel, 8)
	}
	for _, most := range badMosts {
		mustFail(p, 0, 1, most)
	}
	for _, pc := range append([]int{3, 4, 40}, badPlaces...) {
		mustFail(p, pc, 1, 8)
	}
	for _, bad := range badPrograms() {
		mustFail(bad, 0, 1, 8)
		mustFail(bad, 1, 400, 64)
	}
}

func bodyPaths(p impl.Program, pc int, l []impl.Fact, fuel, most int) ([]impl.Path, bool) {
	return impl.BodyPaths(p, pc, l, fuel, most)
}

func TestP9BodyPaths(t *testing.T) {
	unknown := "|r0:3, r1:3, r2:3, r3:3|m0:3||0||"
	for _, c := range []loopCase{
		// No facts.
		{countdown, "", 2, 3, "5" + unknown + "1|2|(eq 3:0 r0:3)|1 & 2|(sub r0:3 r1:3), r1:3, r2:3, r3:3|m0:3||0||0|3|(not (eq 3:0 r0:3))|0"}, {countdown, "", 5, 1, "5" + unknown + "1|1||"}, {countdown, "", 4, 3, "5" + unknown + "1|3|(eq 3:0 r0:3)|1 & 4|(sub r0:3 r1:3), r1:3, r2:3, r3:3|m0:3||0||0|3|(not (eq 3:0 r0:3))|0"},
		// Facts come before the questions, and none of them is found out to leave out a path.
		{countdown, "r1 is 1", 2, 3, "5" + unknown + "1|2|(eq 3:1 r1:3), (eq 3:0 r0:3)|1 & 2|(sub r0:3 r1:3), r1:3, r2:3, r3:3|m0:3||0||0|3|(eq 3:1 r1:3), (not (eq 3:0 r0:3))|0"}, {countdown, "r0 order r1, r0 is 0", 2, 3, "5" + unknown + "1|2|(not (less r1:3 r0:3)), (eq 3:0 r0:3), (eq 3:0 r0:3)|1 & 2|(sub r0:3 r1:3), r1:3, r2:3, r3:3|m0:3||0||0|3|(not (less r1:3 r0:3)), (eq 3:0 r0:3), (not (eq 3:0 r0:3))|0"},
		{"3 1 0|jump 0", "r0 most 5, r3 bit 2 1, r3 bit 2 0, r0 same r2, r2 sum r3 4", 0, 1, "0" + unknown + "0|1|(not (less 3:5 r0:3)), (cut 2 1 r3:3), (not (cut 2 1 r3:3)), (eq r0:3 r2:3), (eq 3:4 (add r2:3 r3:3))|"},
		// Twice the same, and such that contradict each other.
		{"3 1 0|jump 0", "r0 is 1, r0 is 1", 0, 1, "0" + unknown + "0|1|(eq 3:1 r0:3), (eq 3:1 r0:3)|"}, {"3 1 0|jump 0", "r0 is 1, r0 is 2", 0, 1, "0" + unknown + "0|1|(eq 3:1 r0:3), (eq 3:2 r0:3)|"}, {"3 1 0|check r0|jump 0", "r0 is 0, r0 is 1", 0, 2, "0" + unknown + "8|1|(eq 3:0 r0:3), (eq 3:1 r0:3), (eq 3:0 r0:3)|1 & 0" + unknown + "0|2|(eq 3:0 r0:3), (eq 3:1 r0:3), (not (eq 3:0 r0:3))|0"},
		// A place that leads to itself: it arrives after a step.
		{"3 1 0|jump 0", "", 0, 1, "0" + unknown + "0|1||"}, {"3 1 0|zero r0 0", "", 0, 2, "0" + unknown + "0|1|(eq 3:0 r0:3)|1 & 1" + unknown + "2|1|(not (eq 3:0 r0:3))|0"}, {"3 1 0|halt|jump 1", "", 1, 1, "1" + unknown + "0|1||"}, {"3 1 0|check r2|jump 0", "", 1, 2, "0" + unknown + "8|2|(eq 3:0 r2:3)|1 & 1" + unknown + "0|2|(not (eq 3:0 r2:3))|0"},
		// The place behind the last instruction, which none leaves.
		{"3 1 0|halt", "", 1, 1, "1" + unknown + "2|0||"}, {"3 1 0|jump 0", "r1 is 7", 1, 1, "1" + unknown + "2|0|(eq 3:7 r1:3)|"},
		// It is never reached again.
		{"3 1 0|not r0|halt", "", 0, 2, "1|(not r0:3), r1:3, r2:3, r3:3|m0:3||0||1|2||"}, {"3 1 0|not r0|move r1 r0", "", 1, 2, "2|r0:3, r0:3, r2:3, r3:3|m0:3||0||2|1||"}, {"3 1 0|set r0 0|div r1 r0", "", 0, 2, "1|3:0, r1:3, r2:3, r3:3|m0:3||0||6|2||"},
		// Cells.
		{"3 2 0|load r0 r1|store r1 r2|jump 0", "", 0, 3, "0|r0:3, r1:3, r2:3, r3:3|m0:3, m1:3||0||5|1|(not (less r1:3 3:2))|1 & 1|(if (eq 3:0 r1:3) m0:3 m1:3), r1:3, r2:3, r3:3|m0:3, m1:3||0||5|2|(less r1:3 3:2), (not (less r1:3 3:2))|0 1 & 0|(if (eq 3:0 r1:3) m0:3 m1:3), r1:3, r2:3, r3:3|(if (eq 3:0 r1:3) r2:3 m0:3), (if (eq 3:1 r1:3) r2:3 m1:3)||0||0|3|(less r1:3 3:2), (less r1:3 3:2)|0 0"},
		// Inputs, of which more may have been read than there are; each one has the number of steps before it.
		{"3 1 1|in r0|in r1|jump 0", "", 0, 3, "0|x0:3, x1:3, r2:3, r3:3|m0:3||0||0|3||"}, {"3 1 1|in r0|in r1|jump 0", "", 1, 3, "1|x2:3, x0:3, r2:3, r3:3|m0:3||0||0|3||"}, {"3 1 0|in r0|in r0|jump 0", "", 0, 3, "0|x1:3, r1:3, r2:3, r3:3|m0:3||0||0|3||"}, {"3 1 3|in r2|halt", "r2 is 1", 0, 2, "1|r0:3, r1:3, x0:3, r3:3|m0:3||0||1|2|(eq 3:1 r2:3)|"},
		{"3 1 1|zero r0 2|in r1|in r2|jump 0", "", 0, 4, "0|r0:3, r1:3, x1:3, r3:3|m0:3||0||0|3|(eq 3:0 r0:3)|1 & 0|r0:3, x1:3, x2:3, r3:3|m0:3||0||0|4|(not (eq 3:0 r0:3))|0"}, {"3 1 1|in r0|zero r0 0|halt", "", 1, 2, "1|x1:3, r1:3, r2:3, r3:3|m0:3||0||0|2|(eq 3:0 r0:3)|1 & 2" + unknown + "1|2|(not (eq 3:0 r0:3))|0"},
		// Outputs, of which more may be made than MaxOut.
		{"3 1 0|out r0|jump 0", "", 0, 2, "0" + unknown + "0|2||"}, {"3 1 0|out r0|out r1|out r0|out r1|out r0|out r1|out r0|out r1|jump 0", "", 0, 9, "0" + unknown + "0|9||"}, {"3 1 0|out r0|jump 0", "", 1, 2, "1" + unknown + "0|2||"}, {"3 1 0|out r0", "", 0, 2, "1" + unknown + "2|1||"},
		// An input and an output after many steps, which a loop with known words makes.
		{"8 1 0|set r0 60|set r1 1|sub r0 r1|zero r0 5|jump 2|in r3|out r3|jump 0", "", 0, 184, "0|8:0, 8:1, r2:8, x181:8|m0:8||0||0|184||"},
	} {
		c.check(t, "BodyPaths", bodyPaths)
	}
}

// TestP9BodyPathsOfManyFacts has as many conditions as there may be, and one more.
func TestP9BodyPathsOfManyFacts(t *testing.T) {
	var l []impl.Fact
	for k := range 61 {
		l = append(l, fact(1, k%4, 0, k%8))
	}
	for _, c := range []struct {
		program string
		room    int
		ends    int
	}{
		{"3 1 0|jump 0", 60, 1}, {"3 1 0|halt", 60, 1}, {"3 1 0|zero r0 0|halt", 59, 2}, {"3 1 0|check r0|zero r0 0|jump 0", 58, 3}, {"3 1 0|set r0 1|check r0|jump 0", 60, 1}, {"3 1 0|in r0|out r0|jump 0", 60, 1},
	} {
		p := readProgram(t, c.program)
		for n := 57; n <= 61; n++ {
			got, ok := impl.BodyPaths(p, 0, l[:n], 400, 64)
			if ok != (n <= c.room) || ok && len(got) != c.ends || !ok && len(got) != 0 {
				t.Errorf("BodyPaths of %q with %d facts has %d ends, %v", c.program, n, len(got), ok)
			}
			for _, s := range got {
				if textOfTerms(s.Cond[:n]) != textOfTerms(slowConds(3, l[:n])) || len(s.Turns) != len(s.Cond)-n {
					t.Errorf("BodyPaths of %q with %d facts has %s", c.program, n, textOfPath(s))
				}
			}
		}
		mustHaveNoBody(t, p, 0, repeatedFact(l[0], 1000), 400, 64)
	}
}

func repeatedFact(f impl.Fact, n int) []impl.Fact {
	return slices.Repeat([]impl.Fact{f}, n)
}

// slowConds are the terms of facts for registers of which nothing is known.
func slowConds(w int, l []impl.Fact) []impl.Term {
	var conds []impl.Term
	for _, f := range l {
		conds = append(conds, slowFactTerm(w, f, unknownState(wide(w), 0).Regs))
	}
	return conds
}

// TestP9NoFactOfUnknownRegistersIsTheConstant1 has all facts; so BodyPaths leaves none out.
func TestP9NoFactOfUnknownRegistersIsTheConstant1(t *testing.T) {
	for w := 2; w <= 8; w++ {
		p := wide(w)
		p.Code = []impl.Ins{ins(impl.InsJump, 0, 0, 0)}
		for _, f := range allFacts(w) {
			u, ok := impl.FactTerm(p, f, unknownState(p, 0).Regs)
			if !ok || u.Op == impl.OpConst {
				t.Errorf("FactTerm of %s and variables = %s, %v", textOfFact(f), textOf(u), ok)
			}
			got, ok := impl.BodyPaths(p, 0, []impl.Fact{f}, 1, 1)
			if !ok || textOfPaths(got) != textOfPaths([]impl.Path{changedPath(unknownState(p, 0), func(s *impl.Path) { s.Steps, s.Cond = 1, []impl.Term{u} })}) {
				t.Errorf("BodyPaths with %s = %s, %v", textOfFact(f), textOfPaths(got), ok)
			}
		}
	}
}

func TestP9BodyPathsFails(t *testing.T) {
	for _, text := range callingTexts {
		for pc := range 2 {
			mustHaveNoBody(t, readProgram(t, text), pc, nil, 400, 64)
			mustHaveNoBody(t, readProgram(t, text), pc, []impl.Fact{fact(1, 0, 0, 0)}, 1, 1)
		}
	}
	for _, c := range []struct {
		program        string
		pc, fuel, most int
	}{
		// A place at which it is, without a step.
		{"3 1 0|jump 0", 0, 0, 64}, {"3 1 0|halt", 1, 0, 64}, {"3 1 0|halt", 0, 0, 64},
		// A run that never ends without arriving.
		{"3 1 0|jump 1|jump 1", 0, 400, 64}, {"3 1 0|jump 1|in r0|jump 1", 0, 400, 64}, {"3 1 0|jump 1|out r0|jump 1", 0, 400, 64}, {"3 1 0|zero r0 2|jump 0|zero r1 2|jump 2", 0, 400, 64}, {"3 1 0|zero r0 0|jump 2|jump 2", 0, 400, 64},
		// A term that is too big on one path; more conditions than there may be.
		{"3 1 0|not r0" + doubled("r0", 7) + "|jump 0", 0, 400, 64}, {"3 1 0|zero r0 0" + doubled("r0", 8) + "|jump 0", 0, 400, 64}, {"3 1 0|jump 1|zero r0 0|jump 1", 0, 400, 64},
		// Too many ends.
		{"3 1 0" + zeros(0, 7) + "|jump 0", 0, 400, 64}, {"3 1 0|zero r0 1|zero r0 2|zero r0 3|jump 0", 0, 400, 7},
	} {
		mustHaveNoBody(t, readProgram(t, c.program), c.pc, nil, c.fuel, c.most)
	}
	if l, ok := impl.BodyPaths(readProgram(t, "3 1 0"+zeros(0, 6)+"|jump 0"), 0, nil, 7, 64); !ok || len(l) != 64 {
		t.Errorf("BodyPaths with as many ends as there may be has %d, %v", len(l), ok)
	}
}

func TestP9BodyPathsInvalid(t *testing.T) {
	for _, l := range [][]impl.Fact{nil, {fact(1, 0, 0, 0), fact(3, 1, 0, 2)}} {
		checkInvalidLoops(t, "BodyPaths", func(p impl.Program, pc, fuel, most int) bool {
			paths, ok := impl.BodyPaths(p, pc, l, fuel, most)
			return ok || len(paths) != 0
		})
	}
	good := fact(1, 0, 0, 0)
	for _, w := range []int{2, 3, 8} {
		p := wide(w)
		for _, bad := range badFacts(w) {
			for _, l := range [][]impl.Fact{{bad}, {bad, good}, {good, bad}, append(repeatedFact(good, 59), bad)} {
				mustHaveNoBody(t, p, 0, l, 5, 8)
			}
		}
	}
}

// TestP9PathsOfLoopsOfAny compares EntryPaths and BodyPaths with the document's text.
func TestP9PathsOfLoopsOfAny(t *testing.T) {
	m := maker{state: 449}
	looping, heads := loopingPrograms(400)
	done := map[string]int{}
	for k, p := range slices.Concat(looping, forkingPrograms(300), somePrograms(100)) {
		pc := m.below(len(p.Code) + 1)
		if k < len(heads) && m.below(3) > 0 {
			pc = heads[k]
		}
		l, fuel := m.facts(p.W, m.below(4)), m.below(40)
		x := slowLoop{p: p, pc: pc, fuel: fuel, most: 64}
		calls := slices.ContainsFunc(p.Code, func(i impl.Ins) bool { return i.Op == impl.InsCall || i.Op == impl.InsRet })
		check := func(name string, want []impl.Path, fine bool, paths func(most int) ([]impl.Path, bool)) {
			for _, most := range []int{1, len(want) - 1, len(want), 64} {
				got, ok := paths(most)
				enough := fine && !calls && len(want) <= most && most > 0
				if ok != enough || ok && textOfPaths(got) != textOfPaths(want) || !ok && len(got) > 0 {
					t.Errorf("%s(%s, %d, %s, %d, %d) = %s, %v, want %s, %v", name, dumpProgram(p), pc, textOfFacts(l), fuel, most, textOfPaths(got), ok, textOfPaths(want), fine)
				}
			}
			done[name+strconv.FormatBool(fine && !calls)]++
			done[name+" calls "+strconv.FormatBool(fine && calls)]++
		}
		want, fine := x.entry()
		check("EntryPaths", want, fine, func(most int) ([]impl.Path, bool) { return impl.EntryPaths(p, pc, fuel, most) })
		want, fine = x.body(l)
		check("BodyPaths", want, fine, func(most int) ([]impl.Path, bool) { return impl.BodyPaths(p, pc, l, fuel, most) })
	}
	for _, name := range []string{"EntryPathstrue", "EntryPathsfalse", "BodyPathstrue", "BodyPathsfalse", "EntryPaths calls true", "BodyPaths calls true"} {
		if done[name] < 60 {
			t.Errorf("found %v", done)
		}
	}
}

// TestP9OneEntryPathForEachRun has all runs: one path holds, with the first visit or, if there is none, the end of the run.
func TestP9OneEntryPathForEachRun(t *testing.T) {
	looping, heads := loopingPrograms(400)
	arrived, ended := 0, 0
	for k, p := range slices.Concat(looping, forkingPrograms(200)) {
		pc := 2
		if k < len(heads) {
			pc = heads[k]
		}
		l, ok := impl.EntryPaths(p, pc, 100, 64)
		if !ok {
			continue
		}
		for _, in := range allWords(p) {
			which := impl.EndsFor(p, l, in)
			if len(which) != 1 {
				t.Errorf("the entry paths %v of %s at %d hold for %v", which, dumpProgram(p), pc, in)
				continue
			}
			want := impl.RunProgram(p, in, 400)
			if visits := impl.VisitsOf(p, in, 400, pc); len(visits) > 0 {
				want = visits[0]
				arrived++
			} else {
				ended++
			}
			if got, ok := impl.EvalPath(p, l[which[0]], in); !ok || textOfState(got) != textOfState(want) {
				t.Errorf("the entry path of %s at %d for %v has the state %s, %v, want %s", dumpProgram(p), pc, in, textOfState(got), ok, textOfState(want))
			}
		}
	}
	if arrived < 3000 || ended < 300 {
		t.Errorf("%d runs arrive, and %d do not", arrived, ended)
	}
}

// bodyWords are the words of the variables of body paths from a visit on, where in are the inputs of the run; those that are not read are 1. It gives also the next visit or the end of the run, and tells whether a body path leads there: it does not if inputs, outputs or steps are used up.
func bodyWords(p impl.Program, s impl.State, in []int, pc int) (map[string]int, impl.State, bool) {
	words := map[string]int{}
	for k := range 400 {
		words["x"+strconv.Itoa(k)] = 1
	}
	for k, n := range s.Regs {
		words["r"+strconv.Itoa(k)] = n
	}
	for k, n := range s.Mem {
		words["m"+strconv.Itoa(k)] = n
	}
	first := s.Steps
	for s.Code == impl.CodeRun && s.Steps < 400 && (s.Steps == first || s.Pc != pc) {
		if s.Pc < len(p.Code) && p.Code[s.Pc].Op == impl.InsIn && s.In < p.In {
			words["x"+strconv.Itoa(s.Steps-first)] = in[s.In]
		}
		s = slowStep(p, s, in)
	}
	arrives := s.Code == impl.CodeRun && s.Pc == pc && s.Steps > first
	return words, s, arrives || s.Code != impl.CodeRun && s.Code != impl.CodeInput && s.Code != impl.CodeOutput
}

// TestP9OneBodyPathForEachVisit has all visits of all runs: from each one, one path holds, with the next visit or the end of the run.
func TestP9OneBodyPathForEachVisit(t *testing.T) {
	looping, heads := loopingPrograms(400)
	found := map[string]int{}
	for k, p := range slices.Concat(looping, forkingPrograms(200)) {
		pc := 2
		if k < len(heads) {
			pc = heads[k]
		}
		for _, in := range allWords(p) {
			visits := impl.VisitsOf(p, in, 400, pc)
			l := impl.CandidateFacts(p, visits)
			paths, ok := impl.BodyPaths(p, pc, l[:min(len(l), 20)], 100, 64)
			if !ok || len(visits) == 0 {
				break
			}
			for j, s := range visits {
				words, next, same := bodyWords(p, s, in, pc)
				if j+1 < len(visits) && textOfState(next) != textOfState(visits[j+1]) {
					t.Errorf("the next visit is %s, not %s", textOfState(next), textOfState(visits[j+1]))
				}
				var holding []impl.Path
				for _, path := range paths {
					if !slices.ContainsFunc(path.Cond, func(c impl.Term) bool { return wordOf(c, words) == 0 }) {
						holding = append(holding, path)
					}
				}
				if len(holding) != 1 {
					t.Errorf("the body paths %s of %s at %d hold from %s", textOfPaths(holding), dumpProgram(p), pc, textOfState(s))
					continue
				}
				if same {
					mustLead(t, holding[0], words, s, next)
				}
				found[impl.CodeName(next.Code)]++
			}
		}
	}
	if found["running"] < 3000 || found["halted"] < 1000 || found["check"] < 100 || found["address"] < 100 || found["input"] < 10 || found["output"] < 10 {
		t.Errorf("found %v", found)
	}
}

// mustLead fails the test if a body path does not lead from one state of a run to another one.
func mustLead(t *testing.T, path impl.Path, words map[string]int, from, to impl.State) {
	t.Helper()
	got := impl.State{Pc: path.Pc, Code: path.Code, Steps: from.Steps + path.Steps, In: to.In, Out: to.Out}
	for _, u := range path.Regs {
		got.Regs = append(got.Regs, wordOf(u, words))
	}
	for _, u := range path.Mem {
		got.Mem = append(got.Mem, wordOf(u, words))
	}
	if textOfState(got) != textOfState(to) || path.In != 0 || len(path.Out) != 0 || len(path.Stack) != 0 {
		t.Errorf("the body path %s leads from %s to %s, want %s", textOfPath(path), textOfState(from), textOfState(got), textOfState(to))
	}
}
