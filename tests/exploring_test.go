package tests

import (
	"math"
	"slices"
	"strings"
	"testing"

	"loop.example/g03219/impl"
)

// slowFeasible is ExploreFeasible of a valid path, with no limit but that of 500 ends.
func slowFeasible(p impl.Program, s impl.Path, fuel, limit int, ends []impl.Path) []impl.Path {
	next := slowPaths(p, s)
	if fuel == 0 || len(next) == 0 {
		return append(ends, s)
	}
	for _, after := range next {
		code, _ := impl.PathInputs(p, after, limit)
		if len(ends) < 500 && (len(next) == 1 || code != impl.SatNo) {
			ends = slowFeasible(p, after, fuel-1, limit, ends)
		}
	}
	return ends
}

// endsOf writes the turns and codes of paths.
func endsOf(l []impl.Path) string {
	var texts []string
	for _, s := range l {
		texts = append(texts, textOfInts(s.Turns)+" "+impl.CodeName(s.Code))
	}
	return strings.Join(texts, ", ")
}

func testsText(l [][]int) string {
	var texts []string
	for _, in := range l {
		texts = append(texts, textOfInts(in))
	}
	return strings.Join(texts, ", ")
}

const (
	// There are four ends, and tests for three of them.
	orderProgram = "3 1 2|in r0|in r1|move r2 r0|less r2 r1|zero r2 6|out r1|less r1 r0|zero r1 9|out r0"
	// The product has too many gates.
	cubeProgram = "8 1 2|in r0|in r1|mul r0 r1|mul r0 r1|zero r0 6|halt|zero r0 7"
	// The same question again and again: the first and the last of 64 ends have tests.
	sameProgram = "2 1 1|in r0|zero r0 2|zero r0 3|zero r0 4|zero r0 5|zero r0 6|zero r0 7"
)

func TestP7Explore(t *testing.T) {
	for _, c := range []struct {
		program    string
		fuel, most int
		want       string
	}{
		{"2 1 0|halt", 0, 1, " running"}, {"2 1 0|halt", 1, 1, " halted"}, {"2 1 0|halt", 400, 1, " halted"}, {"2 1 0|not r0", 1, 1, " running"}, {"2 1 0|not r0", 2, 1, " end"}, {"2 1 0|jump 0", 400, 1, " running"}, {"2 1 1|in r0|in r0", 400, 1, " input"}, {"2 1 0|zero r0 0", 400, 1, " running"},
		{sumProgram, 20, 8, "1 1 check, 1 0 end, 0 halted"}, {sumProgram, 20, 3, "1 1 check, 1 0 end, 0 halted"}, {sumProgram, 20, 2, ""}, {sumProgram, 20, 1, ""}, {sumProgram, 400, 64, "1 1 check, 1 0 end, 0 halted"},
		{sumProgram, 3, 1, " running"}, {sumProgram, 4, 2, "1 running, 0 running"}, {sumProgram, 4, 1, ""}, {sumProgram, 5, 3, "1 1 check, 1 0 running, 0 running"}, {sumProgram, 6, 3, "1 1 check, 1 0 end, 0 halted"}, {sumProgram, 0, 1, " running"},
		{orderProgram, 30, 4, "1 1 end, 1 0 end, 0 1 end, 0 0 end"}, {orderProgram, 30, 3, ""}, {"3 2 1|in r0|load r1 r0|out r1|div r1 r0|check r1", 30, 9, "1 address, 0 1 division, 0 0 1 check, 0 0 0 end"},
		// A loop with a fork each time.
		{"2 1 1|in r0|zero r0 3|jump 1", 6, 64, "1 end, 0 1 end, 0 0 1 running, 0 0 0 running"}, {"2 1 1|in r0|not r0|check r0|jump 1", 8, 64, "1 check, 0 1 check, 0 0 running"},
	} {
		p := readProgram(t, c.program)
		got, ok := impl.Explore(p, c.fuel, c.most)
		if ok != (c.want != "") || endsOf(got) != c.want {
			t.Errorf("Explore(%q, %d, %d) = %s, %v, want %s", c.program, c.fuel, c.most, endsOf(got), ok, c.want)
		}
	}
	p := readProgram(t, sumProgram)
	got, ok := impl.Explore(p, 5, 64)
	want := "6|(add 3:3 i0:3), 3:3, 3:0, 3:0|3:0, 3:0||1||8|5|(eq 3:0 (add 3:3 i0:3)), (eq 3:0 (add 3:3 i0:3))|1 1" +
		" & 7|(add 3:3 i0:3), 3:3, 3:0, 3:0|3:0, 3:0||1||0|5|(eq 3:0 (add 3:3 i0:3)), (not (eq 3:0 (add 3:3 i0:3)))|1 0" +
		" & 5|(add 3:3 i0:3), 3:3, 3:0, 3:0|3:0, 3:0||1|(add 3:3 i0:3)|0|5|(not (eq 3:0 (add 3:3 i0:3)))|0"
	if !ok || textOfPaths(got) != want {
		t.Errorf("Explore = %s, %v, want %s", textOfPaths(got), ok, want)
	}
}

// TestP7ExploreOfLoops has a loop with as many forks as there may be conditions: 60 paths leave it, and the last one is too big.
func TestP7ExploreOfLoops(t *testing.T) {
	p := readProgram(t, "2 1 1|in r0|zero r0 3|jump 1")
	for _, fuel := range []int{122, 123, 124, 399, 400} {
		got, ok := impl.Explore(p, fuel, 61)
		if !ok || len(got) != 61 || got[60].Code != impl.CodeBig || got[60].Steps != 122 || len(got[60].Turns) != 60 || got[59].Steps != 120 || len(got[59].Turns) != 60 {
			t.Errorf("Explore of %d steps has %d ends, %v", fuel, len(got), ok)
		}
		if got, ok := impl.Explore(p, fuel, 60); ok || len(got) != 0 {
			t.Errorf("Explore of %d steps has %d ends of 60, %v", fuel, len(got), ok)
		}
	}
	if got, ok := impl.Explore(p, 121, 61); !ok || len(got) != 61 || got[60].Code != impl.CodeRun {
		t.Errorf("Explore of 121 steps has %d ends, %v", len(got), ok)
	}
	// The question with a condition before it has no test, so that only two ends are left.
	got, ok := impl.ExploreFeasible(p, 400, 2, 3000)
	if want := "1 end, " + textOfInts(repeated(0, 60)) + " big"; !ok || endsOf(got) != want {
		t.Errorf("ExploreFeasible = %s, %v", endsOf(got), ok)
	}
}

// TestP7ExploreOfMaxPaths has as many ends as there may be, and one more.
func TestP7ExploreOfMaxPaths(t *testing.T) {
	p := readProgram(t, sameProgram)
	got, ok := impl.Explore(p, 30, 64)
	if !ok || len(got) != 64 {
		t.Fatalf("Explore has %d ends, %v", len(got), ok)
	}
	for k, s := range got {
		for i, turn := range s.Turns {
			if len(s.Turns) != 6 || turn != 1-k>>(5-i)&1 {
				t.Errorf("end %d has the turns %v", k, s.Turns)
			}
		}
	}
	if got, ok := impl.Explore(p, 30, 63); ok || len(got) != 0 {
		t.Errorf("Explore of 63 ends = %s, %v", endsOf(got), ok)
	}
	for _, program := range []string{sameProgram + "|zero r0 8", sameProgram + "|zero r0 0"} {
		if got, ok := impl.Explore(readProgram(t, program), 30, 64); ok || len(got) != 0 {
			t.Errorf("Explore of %q = %s, %v", program, endsOf(got), ok)
		}
	}
	feasible, ok := impl.ExploreFeasible(p, 30, 2, 3000)
	if !ok || textOfPaths(feasible) != textOfPath(got[0])+" & "+textOfPath(got[63]) {
		t.Errorf("ExploreFeasible = %s, %v", endsOf(feasible), ok)
	}
}

func TestP7ExploreFeasible(t *testing.T) {
	for _, c := range []struct {
		program           string
		fuel, most, limit int
		want              string
	}{
		{"2 1 0|halt", 0, 1, 0, " running"}, {"2 1 0|halt", 1, 1, 0, " halted"}, {"2 1 0|jump 0", 400, 1, 3000, " running"},
		{sumProgram, 20, 8, 100, "1 1 check, 0 halted"}, {sumProgram, 20, 2, 100, "1 1 check, 0 halted"}, {sumProgram, 20, 1, 100, ""}, {sumProgram, 400, 64, 3000, "1 1 check, 0 halted"}, {sumProgram, 4, 2, 100, "1 running, 0 running"}, {sumProgram, 3, 1, 100, " running"}, {sumProgram, 0, 1, 0, " running"},
		{orderProgram, 30, 3, 3000, "1 1 end, 1 0 end, 0 1 end"}, {orderProgram, 30, 2, 3000, ""},
		// The limit is too small to tell that there is no test for one.
		{orderProgram, 30, 4, 0, "1 1 end, 1 0 end, 0 1 end, 0 0 end"}, {orderProgram, 30, 3, 0, ""},
		// There is no circuit, so nothing is left out.
		{cubeProgram, 30, 3, 3000, "1 1 end, 1 0 end, 0 halted"}, {cubeProgram, 30, 2, 3000, ""}, {strings.Replace(cubeProgram, "8", "4", 1), 30, 2, 3000, "1 1 end, 0 halted"},
	} {
		p := readProgram(t, c.program)
		got, ok := impl.ExploreFeasible(p, c.fuel, c.most, c.limit)
		if ok != (c.want != "") || endsOf(got) != c.want {
			t.Errorf("ExploreFeasible(%q, %d, %d, %d) = %s, %v, want %s", c.program, c.fuel, c.most, c.limit, endsOf(got), ok, c.want)
		}
	}
}

func TestP7TestsOf(t *testing.T) {
	for _, c := range []struct {
		program           string
		fuel, most, limit int
		want              string
		ok                bool
	}{
		{sumProgram, 20, 8, 100, "5, 0", true}, {sumProgram, 20, 2, 100, "5, 0", true}, {sumProgram, 20, 1, 100, "", false}, {sumProgram, 3, 1, 0, "0", true}, {sumProgram, 3, 1, 3000, "0", true}, {sumProgram, 400, 64, 3000, "5, 0", true},
		{orderProgram, 30, 3, 3000, "0 0, 1 0, 0 1", true}, {orderProgram, 30, 2, 3000, "", false},
		// PathInputs returns SatOpen for an end.
		{sumProgram, 20, 8, 0, "", false}, {orderProgram, 30, 64, 0, "", false}, {cubeProgram, 30, 3, 3000, "", false},
		{"3 2 1|in r0|load r1 r0|out r1|div r1 r0|check r1", 30, 9, 100, "2, 0, 1", true}, {"2 1 0|halt", 3, 1, 0, "", true}, {"2 1 3|in r0|in r1|in r2|zero r2 5|check r1|halt", 30, 9, 100, "0 0 0, 0 0 1, 0 1 1", true}, {sameProgram, 30, 2, 3000, "0, 1", true},
	} {
		p := readProgram(t, c.program)
		got, ok := impl.TestsOf(p, c.fuel, c.most, c.limit)
		if ok != c.ok || testsText(got) != c.want || !ok && len(got) != 0 {
			t.Errorf("TestsOf(%q, %d, %d, %d) = %s, %v, want %s", c.program, c.fuel, c.most, c.limit, testsText(got), ok, c.want)
		}
	}
	// The only test of a program without inputs is a list of no words.
	got, ok := impl.TestsOf(readProgram(t, "2 1 0|halt"), 3, 1, 0)
	if !ok || len(got) != 1 || len(got[0]) != 0 {
		t.Errorf("TestsOf a program without inputs = %v, %v", got, ok)
	}
}

// TestP7ExploreOfAny compares with the document's text, with just as many ends as there are and with one less.
func TestP7ExploreOfAny(t *testing.T) {
	m := maker{state: 257}
	explored, pruned := 0, 0
	for k, p := range slices.Concat(forkingPrograms(700), somePrograms(100)) {
		fuel, limit := m.below(25), []int{0, 3, 3000, 3000}[m.below(4)]
		if k%10 == 0 {
			fuel = 400
		}
		all := slowExplore(p, slowStartPath(p), fuel, nil)
		feasible := slowFeasible(p, slowStartPath(p), fuel, limit, nil)
		for _, most := range []int{1, 64, len(all) - 1, len(all), len(all) + 1, len(feasible) - 1, len(feasible), len(feasible) + 1} {
			if most < 1 || most > 64 {
				continue
			}
			got, ok := impl.Explore(p, fuel, most)
			if ok != (len(all) <= most) || ok && textOfPaths(got) != textOfPaths(all) || !ok && len(got) > 0 {
				t.Errorf("Explore(%s, %d, %d) = %s, %v, want %s", dumpProgram(p), fuel, most, textOfPaths(got), ok, textOfPaths(all))
			}
			got, ok = impl.ExploreFeasible(p, fuel, most, limit)
			if ok != (len(feasible) <= most) || ok && textOfPaths(got) != textOfPaths(feasible) || !ok && len(got) > 0 {
				t.Errorf("ExploreFeasible(%s, %d, %d, %d) = %s, %v, want %s", dumpProgram(p), fuel, most, limit, textOfPaths(got), ok, textOfPaths(feasible))
			}
			checkTestsOf(t, p, fuel, most, limit, feasible)
		}
		if len(all) > 1 && len(all) <= 64 {
			explored++
			pruned += len(all) - len(feasible)
		}
	}
	if explored < 200 || pruned < 500 {
		t.Errorf("only %d programs explored and %d paths left out", explored, pruned)
	}
}

// checkTestsOf compares TestsOf with PathInputs for the ends of ExploreFeasible.
func checkTestsOf(t *testing.T, p impl.Program, fuel, most, limit int, feasible []impl.Path) {
	t.Helper()
	var want [][]int
	fine := len(feasible) <= most
	for _, s := range feasible {
		code, in := impl.PathInputs(p, s, limit)
		fine = fine && code != impl.SatOpen
		if code == impl.SatYes {
			want = append(want, in)
		}
	}
	if !fine {
		want = nil
	}
	if got, ok := impl.TestsOf(p, fuel, most, limit); ok != fine || testsText(got) != testsText(want) {
		t.Errorf("TestsOf(%s, %d, %d, %d) = %s, %v, want %s", dumpProgram(p), fuel, most, limit, testsText(got), ok, testsText(want))
	}
}

// TestP7EndsDivideTests compares ends with the runs of all tests.
func TestP7EndsDivideTests(t *testing.T) {
	m := maker{state: 263}
	count, left := 0, 0
	for k, p := range forkingPrograms(900) {
		fuel := m.below(30)
		if k%20 == 0 {
			fuel = 400
		}
		ends, ok := impl.Explore(p, fuel, 64)
		if !ok || len(ends) < 2 {
			continue
		}
		count++
		first := make([][]int, len(ends))
		for _, in := range allWords(p) {
			holding := impl.Path{}
			n := 0
			for k, s := range ends {
				if impl.HoldsPath(p, s, in) {
					holding = s
					n++
					if first[k] == nil {
						first[k] = in
					}
				}
			}
			state, _ := impl.EvalPath(p, holding, in)
			if n != 1 || holding.Code != impl.CodeBig && textOfState(state) != textOfState(impl.RunProgram(p, in, fuel)) {
				t.Errorf("%d ends of %s hold for %v, one with the state %s", n, dumpProgram(p), in, textOfState(state))
			}
		}
		left += mustLeaveOut(t, p, fuel, ends, first)
	}
	if count < 300 || left < 500 {
		t.Errorf("only %d programs, and %d paths left out", count, left)
	}
}

// mustLeaveOut fails the test unless ExploreFeasible leaves just those ends out that have no first test, and TestsOf has the others; it returns how many have none.
func mustLeaveOut(t *testing.T, p impl.Program, fuel int, ends []impl.Path, first [][]int) int {
	t.Helper()
	var want []impl.Path
	var tests [][]int
	for k, s := range ends {
		if code, _ := impl.PathInputs(p, s, 3000); code == impl.SatOpen {
			return 0
		}
		if first[k] != nil {
			want, tests = append(want, s), append(tests, first[k])
		}
	}
	if got, ok := impl.ExploreFeasible(p, fuel, 64, 3000); !ok || textOfPaths(got) != textOfPaths(want) {
		t.Errorf("ExploreFeasible(%s, %d) = %s, %v, want %s", dumpProgram(p), fuel, textOfPaths(got), ok, textOfPaths(want))
	}
	got, ok := impl.TestsOf(p, fuel, 64, 3000)
	if !ok || testsText(got) != testsText(tests) {
		t.Errorf("TestsOf(%s, %d) = %s, %v, want %s", dumpProgram(p), fuel, testsText(got), ok, testsText(tests))
	}
	seen := map[string]bool{}
	for k, in := range got {
		s, ok := impl.PathFor(p, in, fuel)
		if !ok || textOfPath(s) != textOfPath(want[k]) || seen[textOfInts(s.Turns)] {
			t.Errorf("PathFor(%s, %v, %d) = %s, %v, want %s", dumpProgram(p), in, fuel, textOfPath(s), ok, textOfPath(want[k]))
		}
		seen[textOfInts(s.Turns)] = true
	}
	return len(ends) - len(want)
}

func TestP7ExploreInvalid(t *testing.T) {
	mustFail := func(p impl.Program, fuel, most, limit int) {
		t.Helper()
		if got, ok := impl.Explore(p, fuel, most); limit == 50 && (ok || len(got) != 0) {
			t.Errorf("Explore(%.300s, %d, %d) = %s, %v", dumpProgram(p), fuel, most, textOfPaths(got), ok)
		}
		if got, ok := impl.ExploreFeasible(p, fuel, most, limit); ok || len(got) != 0 {
			t.Errorf("ExploreFeasible(%.300s, %d, %d, %d) = %s, %v", dumpProgram(p), fuel, most, limit, textOfPaths(got), ok)
		}
		if got, ok := impl.TestsOf(p, fuel, most, limit); ok || len(got) != 0 {
			t.Errorf("TestsOf(%.300s, %d, %d, %d) = %s, %v", dumpProgram(p), fuel, most, limit, testsText(got), ok)
		}
	}
	p := readProgram(t, "3 2 1|in r0|halt")
	for _, fuel := range badFuels {
		mustFail(p, fuel, 8, 50)
	}
	for _, most := range []int{0, -1, 65, 66, 1 << 32, math.MinInt, math.MaxInt} {
		mustFail(p, 5, most, 50)
		mustFail(p, 0, most, 50)
	}
	for _, limit := range badLimits {
		mustFail(p, 5, 8, limit)
		mustFail(p, 0, 8, limit)
		mustFail(readProgram(t, sumProgram), 20, 8, limit)
	}
	for _, bad := range badPrograms() {
		mustFail(bad, 5, 8, 50)
		mustFail(bad, 0, 8, 50)
	}
}
