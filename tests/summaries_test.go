package tests

import (
	"math"
	"slices"
	"strings"
	"testing"

	"loop.example/g03219/impl"
)

// unknown3 is the part of a path's text that has its registers and cells, for words of 3 bits and two cells.
const unknown3 = "|r0:3, r1:3, r2:3, r3:3|m0:3, m1:3|"

func TestP8SummaryOf(t *testing.T) {
	for _, c := range []struct {
		program           string
		entry, fuel, most int
		want              string
	}{
		// An InsRet at once, also without fuel.
		{"3 2 1|call 2|halt|ret", 2, 10, 1, "2" + unknown3 + "|0||0|0||"}, {"3 2 1|ret", 0, 0, 1, "0" + unknown3 + "|0||0|0||"}, {"8 1 0|not r0|ret", 1, 0, 1, "1|r0:8, r1:8, r2:8, r3:8|m0:8||0||0|0||"}, {"4 6 0|ret", 0, 0, 1, "0|r0:4, r1:4, r2:4, r3:4|m0:4, m1:4, m2:4, m3:4, m4:4, m5:4||0||0|0||"},
		// What is done before it.
		{"3 2 1|halt|not r0|move r1 r0|ret", 1, 2, 1, "3|(not r0:3), (not r0:3), r2:3, r3:3|m0:3, m1:3||0||0|2||"}, {"3 2 1|halt|not r0|move r1 r0|ret", 2, 1, 1, "3|r0:3, r0:3, r2:3, r3:3|m0:3, m1:3||0||0|1||"}, {"3 2 1|set r3 1|load r2 r3|store r3 r0|ret", 0, 3, 1, "3|r0:3, r1:3, m1:3, 3:1|m0:3, r0:3||0||0|3||"},
		// A jump to the end, with just enough fuel: CodeEnd takes a step.
		{"3 2 1|jump 1", 0, 2, 1, "1" + unknown3 + "|0||2|1||"}, {"3 2 1|jump 2|ret", 2, 1, 1, "2" + unknown3 + "|0||2|0||"}, {"3 2 1|halt", 0, 1, 1, "0" + unknown3 + "|0||1|1||"}, {"3 2 1|set r0 0|check r0", 0, 2, 1, "1|3:0, r1:3, r2:3, r3:3|m0:3, m1:3||0||8|2||"}, {"3 2 1|set r0 2|load r1 r0", 0, 2, 1, "1|3:2, r1:3, r2:3, r3:3|m0:3, m1:3||0||5|2||"}, {"3 2 1|set r0 0|div r1 r0", 0, 2, 1, "1|3:0, r1:3, r2:3, r3:3|m0:3, m1:3||0||6|2||"},
		// Forks: a check, an address and a division.
		{"3 2 1|check r1|ret", 0, 1, 2, "0" + unknown3 + "|0||8|1|(eq 3:0 r1:3)|1 & 1" + unknown3 + "|0||0|1|(not (eq 3:0 r1:3))|0"}, {"3 2 1|load r0 r1|ret", 0, 1, 2, "0" + unknown3 + "|0||5|1|(not (less r1:3 3:2))|1 & 1|(if (eq 3:0 r1:3) m0:3 m1:3), r1:3, r2:3, r3:3|m0:3, m1:3||0||0|1|(less r1:3 3:2)|0"}, {"3 2 1|rem r0 r3|ret", 0, 1, 2, "0" + unknown3 + "|0||6|1|(eq 3:0 r3:3)|1 & 1|(rem r0:3 r3:3), r1:3, r2:3, r3:3|m0:3, m1:3||0||0|1|(not (eq 3:0 r3:3))|0"},
		{"3 2 1|zero r0 2|ret|not r0|zero r1 1|halt", 0, 4, 3, "1|(not r0:3), r1:3, r2:3, r3:3|m0:3, m1:3||0||0|3|(eq 3:0 r0:3), (eq 3:0 r1:3)|1 1 & 4|(not r0:3), r1:3, r2:3, r3:3|m0:3, m1:3||0||1|4|(eq 3:0 r0:3), (not (eq 3:0 r1:3))|1 0 & 1" + unknown3 + "|0||0|1|(not (eq 3:0 r0:3))|0"},
		// A loop for which the fuel is just enough.
		{"3 2 1|set r0 2|set r1 1|zero r0 6|sub r0 r1|jump 2|halt|ret", 0, 9, 1, "6|3:0, 3:1, r2:3, r3:3|m0:3, m1:3||0||0|9||"},
		// What keeps a function from being summed up is never reached.
		{"3 2 1|jump 4|in r0|out r0|call 0|ret", 0, 5, 1, "4" + unknown3 + "|0||0|1||"}, {"3 2 1|set r0 1|zero r0 3|ret|in r0", 0, 5, 1, "2|3:1, r1:3, r2:3, r3:3|m0:3, m1:3||0||0|2||"},
	} {
		p := readProgram(t, c.program)
		got, ok := impl.SummaryOf(p, c.entry, c.fuel, c.most)
		if !ok || textOfPaths(got) != c.want {
			t.Errorf("SummaryOf(%q, %d, %d, %d) = %s, %v, want %s", c.program, c.entry, c.fuel, c.most, textOfPaths(got), ok, c.want)
		}
		if c.most > 1 {
			mustNotSum(t, p, c.entry, c.fuel, c.most-1)
		}
		if got, ok := impl.SummaryOf(p, c.entry, 400, 64); !ok || textOfPaths(got) != c.want {
			t.Errorf("SummaryOf(%q, %d) with all fuel = %s, %v, want %s", c.program, c.entry, textOfPaths(got), ok, c.want)
		}
	}
}

func mustNotSum(t *testing.T, p impl.Program, entry, fuel, most int) {
	t.Helper()
	if got, ok := impl.SummaryOf(p, entry, fuel, most); ok || len(got) != 0 {
		t.Errorf("SummaryOf(%.300s, %d, %d, %d) = %s, %v", dumpProgram(p), entry, fuel, most, textOfPaths(got), ok)
	}
}

func TestP8SummaryOfFails(t *testing.T) {
	for _, c := range []struct {
		program           string
		entry, fuel, most int
	}{
		// A path comes to them, also where all inputs leave this path out, and where no fuel is left for them.
		{"3 2 1|in r0|ret", 0, 10, 4}, {"3 2 1|out r0|ret", 0, 10, 4}, {"3 2 1|call 1|ret", 0, 10, 4}, {"3 2 0|in r0|ret", 0, 10, 4}, {"3 2 1|zero r0 2|ret|in r0|ret", 0, 10, 4}, {"3 2 1|zero r0 2|ret|out r0|ret", 0, 10, 4}, {"3 2 1|zero r0 2|ret|call 1|ret", 0, 10, 4}, {"3 2 1|zero r0 2|in r0|ret", 0, 10, 4},
		{"3 2 1|in r0|ret", 0, 0, 4}, {"3 2 1|out r0|ret", 0, 0, 4}, {"3 2 1|call 1|ret", 0, 0, 4}, {"3 2 1|not r0|in r0|ret", 0, 1, 4}, {"3 2 1|not r0|out r0|ret", 0, 1, 4}, {"3 2 1|not r0|call 3|ret", 0, 1, 4}, {"3 2 1|zero r0 3|zero r0 4|ret|ret|in r0|ret", 0, 9, 9},
		// Too little fuel.
		{"3 2 1|jump 1", 0, 1, 4}, {"3 2 1|jump 1", 0, 0, 4}, {"3 2 1|jump 1", 1, 0, 4}, {"3 2 1|halt", 0, 0, 4}, {"3 2 1|not r0|ret", 0, 0, 4}, {"3 2 1|jump 0", 0, 400, 64}, {"3 2 1|zero r0 2|not r1|ret", 0, 1, 4}, {"3 2 1|set r0 2|set r1 1|zero r0 6|sub r0 r1|jump 2|halt|ret", 0, 8, 1},
		// A term that is too big, and more conditions than there may be.
		{"3 2 1" + doubled("r0", 7) + "|ret", 0, 40, 4}, {"3 2 1" + doubled("r0", 6) + "|mul r0 r1" + "|zero r2 9|ret|mul r0 r0|ret", 0, 40, 4}, {"3 2 1|zero r0 2|jump 0|ret", 0, 400, 64},
		// Too many ends.
		{"3 2 1|zero r0 2|zero r1 3|zero r2 4|ret|ret", 0, 40, 4}, {"3 2 1" + zeros(0, 7) + "|ret", 0, 40, 64},
	} {
		mustNotSum(t, readProgram(t, c.program), c.entry, c.fuel, c.most)
	}
	if got, ok := impl.SummaryOf(readProgram(t, "3 2 1"+zeros(0, 6)+"|ret"), 0, 6, 64); !ok || len(got) != 64 {
		t.Errorf("SummaryOf with as many ends as there may be has %d, %v", len(got), ok)
	}
	if got, ok := impl.SummaryOf(readProgram(t, "3 2 1"+doubled("r0", 6)+"|ret"), 0, 6, 1); !ok || len(got) != 1 {
		t.Errorf("SummaryOf with a big term has %d ends, %v", len(got), ok)
	}
}

// TestP8SummaryOfAny compares with the document's text.
func TestP8SummaryOfAny(t *testing.T) {
	m := maker{state: 353}
	done, failed := 0, 0
	for _, p := range slices.Concat(callingPrograms(500), forkingPrograms(200), somePrograms(100)) {
		entry, fuel := m.below(len(p.Code)+1), m.below(30)
		want, fine := slowSummary(p, entry, fuel, 64)
		for _, most := range []int{1, len(want) - 1, len(want), len(want) + 1, 64} {
			if most < 1 || most > 64 {
				continue
			}
			got, ok := impl.SummaryOf(p, entry, fuel, most)
			if ok != (fine && len(want) <= most) || ok && textOfPaths(got) != textOfPaths(want) || !ok && len(got) > 0 {
				t.Errorf("SummaryOf(%s, %d, %d, %d) = %s, %v, want %s, %v", dumpProgram(p), entry, fuel, most, textOfPaths(got), ok, textOfPaths(want), fine)
			}
		}
		if fine {
			done++
		} else {
			failed++
		}
	}
	if done < 150 || failed < 150 {
		t.Errorf("only %d functions are summed up, and %d not", done, failed)
	}
}

func TestP8SummaryOfInvalid(t *testing.T) {
	checkInvalidExploring(t, "SummaryOf", func(p impl.Program, fuel, most int) ([]impl.Path, bool) { return impl.SummaryOf(p, 0, fuel, most) })
	p := readProgram(t, "3 2 1|ret|halt")
	for _, entry := range []int{-1, 3, 4, 40, 1 << 32, math.MinInt, math.MaxInt} {
		mustNotSum(t, p, entry, 5, 8)
	}
	for _, bad := range badPrograms() {
		mustNotSum(t, bad, 2, 5, 8)
	}
}

// The call is at the place 1 of a program with 4 instructions.
const (
	callProgram = "3 2 1|jump 3|call 3|halt|ret"
	callPath    = "1|a:3, 3:2, i0:3, 3:0|m:3, 3:6|4|0|i0:3|0|9|c:1|1"
	behindCall  = "2|a:3, 3:2, i0:3, 3:0|m:3, 3:6|4|0|i0:3|0|11|c:1|1"
	sameElement = "3|r0:3, r1:3, r2:3, r3:3|m0:3, m1:3||0||0|0||"
)

func TestP8ApplySummary(t *testing.T) {
	p := readProgram(t, callProgram)
	of := func(changes ...any) string { return pathWith(sameElement, changes...) }
	with := func(changes ...any) string { return pathWith(behindCall, changes...) }
	for _, c := range []struct{ path, element, want string }{
		{callPath, sameElement, behindCall}, {callPath, of(stepsPart, "5"), with(stepsPart, "16")}, {pathWith(callPath, stepsPart, "0"), sameElement, with(stepsPart, "2")},
		// What e has elsewhere does not count.
		{callPath, of(pcPart, "0", stackPart, "1 2 3", inPart, "1", outPart, "3:1, r0:3"), behindCall}, {callPath, of(pcPart, "4"), behindCall},
		// Constants, and operations that become simpler.
		{callPath, of(regsPart, "3:7, r1:3, (add r1:3 3:1), (not r3:3)"), with(regsPart, "3:7, 3:2, 3:3, 3:7")}, {callPath, of(regsPart, "(add r0:3 r3:3), (mul r3:3 r0:3), (not (not r2:3)), (sub r0:3 r0:3)"), with(regsPart, "a:3, 3:0, i0:3, 3:0")}, {callPath, of(memPart, "(sub m0:3 m1:3), (xor m0:3 r0:3)"), with(memPart, "(sub m:3 3:6), (xor a:3 m:3)")},
		{callPath, of(memPart, "(add x:3 3:1), (if (eq r1:3 3:2) 3:1 x:3)"), with(memPart, "(add 3:1 x:3), 3:1")}, {pathWith(callPath, regsPart, "(sub a:3 a:3), (add a:3 3:1), 3:0, 3:0"), sameElement, with(regsPart, "3:0, (add 3:1 a:3), 3:0, 3:0")}, {pathWith(callPath, condPart, "(not (not c:1)), 1:1, 1:0", turnsPart, "1"), sameElement, with(condPart, "(not (not c:1)), 1:1, 1:0", turnsPart, "1")},
		// They change places.
		{callPath, of(regsPart, "r3:3, r2:3, r1:3, r0:3"), with(regsPart, "3:0, i0:3, 3:2, a:3")}, {callPath, of(regsPart, "m1:3, m0:3, r0:3, r0:3", memPart, "r0:3, r2:3"), with(regsPart, "3:6, m:3, a:3, a:3", memPart, "a:3, i0:3")},
		{pathWith(callPath, regsPart, "r1:3, r0:3, m0:3, r2:3", memPart, "r0:3, r3:3"), sameElement, with(regsPart, "r1:3, r0:3, m0:3, r2:3", memPart, "r0:3, r3:3")}, {pathWith(callPath, regsPart, "r1:3, r2:3, r3:3, r0:3", memPart, "m1:3, m0:3"), of(regsPart, "r1:3, r0:3, (sub r0:3 m0:3), m1:3"), with(regsPart, "r2:3, r1:3, (sub r1:3 m1:3), m0:3", memPart, "m1:3, m0:3")},
		// Names like those of inputs, and of registers and cells that there are not.
		{callPath, of(regsPart, "i0:3, (sub i0:3 r2:3), (sub i1:3 r2:3), r4:3", memPart, "m2:3, m10:3"), with(regsPart, "i0:3, 3:0, (sub i1:3 i0:3), r4:3", memPart, "m2:3, m10:3")}, {callPath, of(regsPart, "r:3, m:3, r00:3, r1x:3", memPart, "r5:3, m6:3"), with(regsPart, "r:3, m:3, r00:3, r1x:3", memPart, "r5:3, m6:3")},
		// Names with another width.
		{callPath, of(regsPart, "(cut 0 3 r0:5), (grow 3 r1:1), (cut 0 3 r2:4), r3:3"), with(regsPart, "a:3, 3:2, i0:3, 3:0")}, {callPath, of(memPart, "(stretch 3 m0:2), (if (less r0:9 r2:9) 3:1 3:2)"), with(memPart, "m:3, (if (less a:3 i0:3) 3:1 3:2)")}, {callPath, of(regsPart, "(cut 0 3 i0:5), r1:3, r1:3, r3:3"), with(regsPart, "(cut 0 3 i0:5), 3:2, 3:2, 3:0")},
		// Conditions: those that are the constant 1 are left out, with their turns.
		{callPath, of(condPart, "(eq 3:0 r0:3)", turnsPart, "1"), with(condPart, "c:1, (eq 3:0 a:3)", turnsPart, "1 1")}, {callPath, of(condPart, "(eq 3:2 r1:3)", turnsPart, "0"), with()}, {callPath, of(condPart, "1:1, (not (eq 3:0 r0:3)), (eq 3:0 r3:3), (less r1:3 r0:3), (not (eq 3:0 r1:3))", turnsPart, "1 0 1 1 0"), with(condPart, "c:1, (not (eq 3:0 a:3)), (less 3:2 a:3)", turnsPart, "1 0 1")},
		{callPath, of(condPart, "(eq 3:0 r0:3), (eq 3:0 r1:3), (not (eq 3:0 r1:3))", turnsPart, "1 1 0"), ""}, {callPath, of(condPart, "1:0", turnsPart, "1"), ""}, {callPath, of(condPart, "c:1, d:1, (eq r0:3 a:3)", turnsPart, "0 0 1"), with(condPart, "c:1, c:1, d:1", turnsPart, "1 0 0")}, {callPath, of(condPart, "(less r0:3 r3:3)", turnsPart, "0"), ""},
		{pathWith(callPath, condPart, "", turnsPart, ""), of(condPart, "(eq 3:0 r0:3)", turnsPart, "0"), with(condPart, "(eq 3:0 a:3)", turnsPart, "0")}, {pathWith(callPath, condPart, "", turnsPart, "0 0 1"), of(condPart, "(eq 3:0 r0:3)", turnsPart, "0"), with(condPart, "(eq 3:0 a:3)", turnsPart, "0 0 1 0")}, {pathWith(callPath, condPart, "c:1, d:1", turnsPart, ""), of(condPart, "(eq 3:0 r0:3)", turnsPart, "1"), with(condPart, "c:1, d:1, (eq 3:0 a:3)", turnsPart, "1")},
		// A condition that is a variable of another width than W, whose place a constant takes.
		{callPath, of(condPart, "r3:1", turnsPart, "1"), ""}, {pathWith(callPath, regsPart, "a:3, 3:1, i0:3, 3:0"), of(condPart, "r1:1", turnsPart, "1"), with(regsPart, "a:3, 3:1, i0:3, 3:0")},
		// It does not return.
		{callPath, of(codePart, "1", stepsPart, "4"), "3|a:3, 3:2, i0:3, 3:0|m:3, 3:6|4 2|0|i0:3|1|14|c:1|1"}, {callPath, of(codePart, "2", pcPart, "4"), "4|a:3, 3:2, i0:3, 3:0|m:3, 3:6|4 2|0|i0:3|2|10|c:1|1"}, {callPath, of(codePart, "8", pcPart, "0", stackPart, "0 0", inPart, "1", outPart, "3:1", condPart, "(eq 3:0 r0:3)", turnsPart, "0"), "0|a:3, 3:2, i0:3, 3:0|m:3, 3:6|4 2|0|i0:3|8|10|c:1, (eq 3:0 a:3)|1 0"},
		{callPath, of(codePart, "9"), "3|a:3, 3:2, i0:3, 3:0|m:3, 3:6|4 2|0|i0:3|9|10|c:1|1"}, {callPath, of(codePart, "3"), "3|a:3, 3:2, i0:3, 3:0|m:3, 3:6|4 2|0|i0:3|3|10|c:1|1"}, {pathWith(callPath, stackPart, ""), of(codePart, "7", condPart, "(eq 3:2 r1:3)", turnsPart, "1", regsPart, "r1:3, r0:3, 3:0, 3:0"), "3|3:2, a:3, 3:0, 3:0|m:3, 3:6|2|0|i0:3|7|10|c:1|1"}, {callPath, of(codePart, "1", condPart, "(eq 3:1 r1:3)", turnsPart, "1"), ""},
		// In and outputs are those of the path.
		{pathWith(callPath, inPart, "1", outPart, ""), of(outPart, "3:1"), with(inPart, "1", outPart, "")}, {pathWith(callPath, outPart, "3:1, 3:2, 3:3, 3:4, (sub a:3 a:3), 3:6"), sameElement, with(outPart, "3:1, 3:2, 3:3, 3:4, (sub a:3 a:3), 3:6")}, {pathWith(callPath, stackPart, "0 3"), sameElement, with(stackPart, "0 3")}, {pathWith(callPath, stackPart, "0 3"), of(codePart, "1"), "3|a:3, 3:2, i0:3, 3:0|m:3, 3:6|0 3 2|0|i0:3|1|10|c:1|1"},
		// Steps with just enough room.
		{pathWith(callPath, stepsPart, "390"), of(stepsPart, "8"), with(stepsPart, "400")}, {pathWith(callPath, stepsPart, "390"), of(stepsPart, "9", codePart, "1"), "3|a:3, 3:2, i0:3, 3:0|m:3, 3:6|4 2|0|i0:3|1|400|c:1|1"}, {pathWith(callPath, stepsPart, "390"), of(stepsPart, "400", condPart, "1:0", turnsPart, "1"), ""},
	} {
		s, e := readPath(t, c.path), readPath(t, c.element)
		got, ok := impl.ApplySummary(p, s, []impl.Path{e})
		if !ok || textOfPaths(got) != c.want {
			t.Errorf("ApplySummary(%s, %s) = %s, %v, want %s", c.path, c.element, textOfPaths(got), ok, c.want)
		}
		checkTwice(t, p, s, e, c.want)
	}
	if got, ok := impl.ApplySummary(p, readPath(t, callPath), nil); !ok || len(got) != 0 {
		t.Errorf("ApplySummary of no elements = %s, %v", textOfPaths(got), ok)
	}
}

// checkTwice applies a summary in which an element comes twice, with others around it.
func checkTwice(t *testing.T, p impl.Program, s, e impl.Path, one string) {
	t.Helper()
	same := readPath(t, sameElement)
	none := readPath(t, pathWith(sameElement, condPart, "1:0", turnsPart, "1"))
	plain, _ := slowApply(p, s, []impl.Path{same})
	want := textOfPaths(plain)
	if one != "" {
		want = one + " & " + want + " & " + one
	}
	got, ok := impl.ApplySummary(p, s, []impl.Path{e, none, same, none, e})
	// The other one may have too many steps.
	if s.Steps < 399 && (!ok || textOfPaths(got) != want) {
		t.Errorf("ApplySummary of five elements = %s, %v, want %s", textOfPaths(got), ok, want)
	}
}

func mustNotApply(t *testing.T, p impl.Program, s impl.Path, l ...impl.Path) {
	t.Helper()
	if got, ok := impl.ApplySummary(p, s, l); ok || len(got) != 0 {
		t.Errorf("ApplySummary(%.300s, %.300s, %d elements) = %s, %v", dumpProgram(p), dumpPath(s), len(l), textOfPaths(got), ok)
	}
}

func TestP8ApplySummaryFails(t *testing.T) {
	p := readProgram(t, callProgram)
	of := func(changes ...any) string { return pathWith(sameElement, changes...) }
	for _, c := range []struct{ path, element string }{
		// There is no call, or no room for it.
		{pathWith(callPath, pcPart, "0"), sameElement}, {pathWith(callPath, pcPart, "2"), sameElement}, {pathWith(callPath, pcPart, "3"), sameElement}, {pathWith(callPath, pcPart, "4"), sameElement}, {pathWith(callPath, stackPart, "0 0 0"), sameElement}, {pathWith(callPath, codePart, "1"), sameElement}, {pathWith(callPath, codePart, "2"), sameElement}, {pathWith(callPath, codePart, "7"), sameElement}, {pathWith(callPath, codePart, "9"), sameElement}, {pathWith(callPath, stackPart, "0 0 0"), of(condPart, "1:0", turnsPart, "1")},
		// Another number of turns.
		{callPath, of(condPart, "d:1")}, {callPath, of(turnsPart, "0")}, {callPath, of(condPart, "d:1, 1:0", turnsPart, "0")}, {callPath, of(condPart, "1:0", turnsPart, "0 1")}, {callPath, of(codePart, "1", turnsPart, "0")},
		// Too many steps.
		{pathWith(callPath, stepsPart, "390"), of(stepsPart, "9")}, {pathWith(callPath, stepsPart, "399"), sameElement}, {pathWith(callPath, stepsPart, "400"), sameElement}, {pathWith(callPath, stepsPart, "400"), of(codePart, "1")}, {pathWith(callPath, stepsPart, "390"), of(stepsPart, "10", codePart, "1")}, {callPath, of(stepsPart, "400", codePart, "2")},
		// Variables with another width than what takes their place can have.
		{callPath, of(memPart, "(if (less r0:4 r:4) 3:0 3:1), m1:3")}, {callPath, of(regsPart, "(cut 1 3 r0:5), r1:3, r2:3, r3:3")}, {callPath, of(regsPart, "r0:3, (if r1:1 3:0 3:1), r2:3, r3:3")}, {callPath, of(regsPart, "r0:3, r1:3, (join r2:2 r:1), r3:3")}, {callPath, of(memPart, "m0:3, (grow 3 (not (eq m1:2 2:0)))")},
		{callPath, of(condPart, "(eq 4:0 r0:4)", turnsPart, "0")}, {callPath, of(condPart, "(eq 4:0 r0:4), 1:0", turnsPart, "0 1")}, {callPath, of(condPart, "1:0, (eq 4:0 r0:4)", turnsPart, "0 1")}, {callPath, of(condPart, "1:0", turnsPart, "1", memPart, "m0:3, (cut 2 3 m1:7)")}, {callPath, of(condPart, "1:0", turnsPart, "1", regsPart, "r0:3, r1:3, r2:3, (cut 2 3 r3:7)")},
		// A condition that has another width then.
		{callPath, of(condPart, "r0:1", turnsPart, "1")}, {callPath, of(condPart, "r1:1", turnsPart, "1")}, {callPath, of(condPart, "m0:1", turnsPart, "0", codePart, "1")},
		// A name that has another width in the term that takes its place.
		{callPath, of(regsPart, "(sub r2:3 (grow 3 i0:2)), r1:3, r2:3, r3:3")}, {callPath, of(condPart, "(eq r0:3 (cut 0 3 a:5))", turnsPart, "0")}, {callPath, of(memPart, "m0:3, (sub (grow 3 m:1) m0:3)", codePart, "1")},
	} {
		s, e := readPath(t, c.path), readPath(t, c.element)
		if !impl.PathOk(p, s) || !impl.PathOk(p, e) {
			t.Errorf("%s or %s is not valid", c.path, c.element)
		}
		mustNotApply(t, p, s, e)
		mustNotApply(t, p, s, readPath(t, sameElement), e)
		mustNotApply(t, p, s, e, readPath(t, pathWith(sameElement, condPart, "1:0", turnsPart, "1")))
	}
	// A program whose last place has no instruction.
	mustNotApply(t, readProgram(t, "3 2 1|call 0"), readPath(t, pathWith(callPath, stackPart, "")), readPath(t, pathWith(sameElement, pcPart, "0")))
}

// TestP8ApplySummaryOfBigTerms has terms with just enough room before they are made simpler, and of one node more.
func TestP8ApplySummaryOfBigTerms(t *testing.T) {
	p := readProgram(t, callProgram)
	// In r0 there are n nodes, and in m1 as many.
	path := func(n int) impl.Path {
		return changedPath(readPath(t, callPath), func(s *impl.Path) { s.Regs[0], s.Mem[1] = sized(3, n), sized(3, n) })
	}
	for _, c := range []struct {
		part int
		text string
		room int
	}{
		{regsPart, "r1:3, r0:3, r2:3, r3:3", 240}, {regsPart, "r0:3, r1:3, r2:3, (mul r0:3 r0:3)", 119}, {regsPart, "(sub r0:3 r0:3), r1:3, r2:3, r3:3", 119}, {regsPart, "r1:3, (not r0:3), r2:3, r3:3", 239}, {regsPart, "r1:3, r2:3, (not (not r0:3)), r3:3", 238}, {regsPart, "r1:3, (mul 3:0 r0:3), r2:3, r3:3", 238}, {regsPart, "r1:3, (mul m1:3 r3:3), r2:3, r3:3", 238},
		{memPart, "(add r0:3 m1:3), r0:3", 119}, {memPart, "r0:3, (add (add r0:3 r0:3) r0:3)", 79}, {condPart, "(eq 3:0 r0:3)", 238}, {condPart, "(eq m1:3 r0:3)", 119}, {condPart, "(not (eq 3:0 (sub r0:3 r0:3)))", 118},
	} {
		for _, n := range []int{c.room - 1, c.room, c.room + 1} {
			if n > 240 {
				continue
			}
			for _, conds := range []string{"", "1:0", "(eq r2:3 r2:3), (eq r1:3 r3:3)"} {
				e := readPath(t, pathWith(sameElement, condPart, conds))
				if c.part == condPart {
					e.Cond = append(e.Cond, read(t, c.text))
				} else {
					e = readPath(t, pathWith(sameElement, condPart, conds, c.part, c.text))
				}
				e.Turns = repeated(1, len(e.Cond))
				want, fine := slowApply(p, path(n), []impl.Path{e})
				got, ok := impl.ApplySummary(p, path(n), []impl.Path{e})
				if ok != (n <= c.room) || ok != fine || ok && textOfPaths(got) != textOfPaths(want) {
					t.Errorf("ApplySummary of %s with %d nodes and the conditions %s = %s, %v", c.text, n, conds, textOfPaths(got), ok)
				}
				if !ok {
					mustNotApply(t, p, path(n), e)
				}
			}
		}
	}
}

// TestP8ApplySummaryWithManyConditions has as many conditions or turns as there may be, and one more.
func TestP8ApplySummaryWithManyConditions(t *testing.T) {
	p := readProgram(t, callProgram)
	for _, c := range []struct {
		conds, turns, more int
		last               string
		ok                 bool
	}{
		{59, 0, 1, "", true}, {60, 0, 1, "", false}, {60, 0, 0, "", true}, {0, 59, 1, "", true}, {0, 60, 1, "", false}, {0, 60, 0, "", true}, {59, 59, 1, "", true}, {60, 60, 1, "", false}, {0, 0, 60, "", true}, {1, 1, 59, "", true}, {1, 0, 60, "", false}, {0, 1, 60, "", false}, {30, 30, 30, "", true}, {30, 31, 30, "", false},
		// What is left out needs no room.
		{60, 60, 0, "(eq r0:3 r0:3)", true}, {59, 59, 1, "(eq 3:2 r1:3)", true}, {60, 60, 1, "(eq 3:2 r1:3)", false}, {60, 60, 1, "(eq 3:1 r1:3)", true}, {60, 60, 59, "1:0", true},
	} {
		s := changedPath(readPath(t, callPath), func(s *impl.Path) {
			s.Cond, s.Turns = repeatedTerm(variable(1, "c"), c.conds), repeated(0, c.turns)
		})
		e := readPath(t, sameElement)
		e.Cond = repeatedTerm(read(t, "(less r0:3 r2:3)"), c.more)
		if c.last != "" {
			e.Cond = append(e.Cond, read(t, c.last))
		}
		e.Turns = repeated(1, len(e.Cond))
		want, fine := slowApply(p, s, []impl.Path{e})
		got, ok := impl.ApplySummary(p, s, []impl.Path{e})
		if ok != c.ok || ok != fine || textOfPaths(got) != textOfPaths(want) && ok {
			t.Errorf("ApplySummary with %d and %d conditions = %s, %v", c.conds, c.more, textOfPaths(got), ok)
		}
		if !ok {
			mustNotApply(t, p, s, e)
		}
	}
}

// TestP8ApplySummaryOfAny compares with the document's text.
func TestP8ApplySummaryOfAny(t *testing.T) {
	m := maker{state: 359}
	done, failed := 0, 0
	for _, p := range callingPrograms(500) {
		for range 6 {
			s, l := m.callArgs(p)
			want, fine := slowApply(p, s, l)
			got, ok := impl.ApplySummary(p, s, l)
			if ok != fine || ok && textOfPaths(got) != textOfPaths(want) || !ok && len(got) > 0 {
				t.Errorf("ApplySummary(%s, %s, %s) = %s, %v, want %s, %v", dumpProgram(p), textOfPath(s), textOfPaths(l), textOfPaths(got), ok, textOfPaths(want), fine)
			}
			switch {
			case !ok:
				failed++
			case len(got) > 0:
				done++
			}
		}
	}
	if done < 700 || failed < 500 {
		t.Errorf("only %d summaries applied, and %d not", done, failed)
	}
}

// TestP8CallsBySummaries compares what comes of calls with the steps of states, for all tests.
func TestP8CallsBySummaries(t *testing.T) {
	m := maker{state: 367}
	returned, ended := 0, 0
	for _, p := range callingPrograms(900) {
		for range 4 {
			s, _ := m.callArgs(p)
			if opAt(p, s) != impl.InsCall || !readsOnly(p, slices.Concat(s.Regs, s.Mem, s.Out, s.Cond)) {
				continue
			}
			l, ok := impl.SummaryOf(p, p.Code[s.Pc].B, 60, 64)
			if !ok {
				continue
			}
			next, ok := impl.ApplySummary(p, s, l)
			if !ok {
				continue
			}
			for _, in := range allWords(p) {
				before, ok := impl.EvalPath(p, s, in)
				held := impl.EndsFor(p, next, in)
				if !ok {
					if len(held) > 0 {
						t.Errorf("ApplySummary(%s, %s) holds for %v", dumpProgram(p), textOfPath(s), in)
					}
					continue
				}
				if len(held) != 1 {
					t.Errorf("%d paths of ApplySummary(%s, %s) hold for %v", len(held), dumpProgram(p), textOfPath(s), in)
					continue
				}
				got, _ := impl.EvalPath(p, next[held[0]], in)
				want := stateBehind(p, before, in)
				if want.Steps == 400 && got.Code == impl.CodeEnd {
					// The step that CodeEnd takes is not among Steps, so that a path may have it where no machine can make it any more.
					continue
				}
				if textOfState(got) != textOfState(want) {
					t.Errorf("ApplySummary(%s, %s) has the state %s for %v, want %s", dumpProgram(p), textOfPath(s), textOfState(got), in, textOfState(want))
				}
				if got.Code == impl.CodeRun {
					returned++
				} else {
					ended++
				}
			}
		}
	}
	if returned < 5000 || ended < 1000 {
		t.Errorf("only %d calls return, and %d do not", returned, ended)
	}
}

// stateBehind makes steps of a state at a call until this is over.
func stateBehind(p impl.Program, s impl.State, in []int) impl.State {
	depth := len(s.Stack)
	s = slowStep(p, s, in)
	for s.Code == impl.CodeRun && s.Steps < 400 && len(s.Stack) > depth {
		s = slowStep(p, s, in)
	}
	return s
}

func TestP8ApplySummaryInvalid(t *testing.T) {
	p := impl.Program{W: 3, Mem: 2, In: 1, Code: []impl.Ins{ins(11, 0, 2, 0), ins(14, 0, 0, 0), ins(12, 0, 0, 0)}}
	good := slowStartPath(p)
	element := unknownState(p, 2)
	if got, ok := impl.ApplySummary(p, good, []impl.Path{element}); !ok || len(got) != 1 {
		t.Fatalf("ApplySummary = %s, %v", textOfPaths(got), ok)
	}
	for _, s := range badPaths(p) {
		mustNotApply(t, p, s, element)
		mustNotApply(t, p, s)
		mustNotApply(t, p, good, s)
		mustNotApply(t, p, good, element, s)
		mustNotApply(t, p, good, s, element)
		// An element that gives no path, too.
		s.Cond, s.Turns = append(slices.Clone(s.Cond), constant(1, 0)), append(slices.Clone(s.Turns), 1)
		if len(s.Cond) == len(s.Turns) && len(s.Cond) < 60 && !impl.PathOk(p, s) {
			mustNotApply(t, p, good, s)
		}
	}
	for _, q := range badPrograms() {
		mustNotApply(t, q, good, element)
		mustNotApply(t, q, good)
		mustNotApply(t, q, impl.Path{})
	}
}

// TestP8SummaryTexts checks the constants of this file.
func TestP8SummaryTexts(t *testing.T) {
	p := readProgram(t, callProgram)
	for _, text := range []string{callPath, behindCall, sameElement} {
		if s := readPath(t, text); textOfPath(s) != text || !impl.PathOk(p, s) || strings.Count(text, "|") != 9 {
			t.Errorf("%s is no path", text)
		}
	}
}
