package tests

import (
	"strings"
	"testing"

	"loop.example/g03219/impl"
)

// TestP8ExploreSummed has the ends in full; they are those of Explore too.
func TestP8ExploreSummed(t *testing.T) {
	start := "2:0, 2:0, 2:0, 2:0|2:0|"
	e, n := "(eq 2:0 i0:2)", "(not (eq 2:0 i0:2))"
	for _, c := range []struct {
		program string
		fuel    int
		want    string
	}{
		{"2 1 1|in r0|zero r0 3|halt", 30, "3|i0:2, 2:0, 2:0, 2:0|2:0||1||2|2|" + e + "|1 & 2|i0:2, 2:0, 2:0, 2:0|2:0||1||1|3|" + n + "|0"}, {"2 1 0|call 1|ret", 0, "0|" + start + "|0||0|0||"}, {"2 1 0|halt", 400, "0|" + start + "|0||1|1||"}, {"2 1 0|call 2|halt|ret", 30, "1|" + start + "|0||1|3||"}, {"2 1 0|call 2|halt|jump 3", 30, "3|" + start + "1|0||2|2||"}, {"2 1 0|call 2|halt|halt", 30, "2|" + start + "1|0||1|2||"},
		// A function with a fork, with all fuel that it needs and less.
		{"2 1 1|in r0|call 3|halt|zero r0 5|not r0|ret", 30, "2|i0:2, 2:0, 2:0, 2:0|2:0||1||1|5|" + e + "|1 & 2|(not i0:2), 2:0, 2:0, 2:0|2:0||1||1|6|" + n + "|0"}, {"2 1 1|in r0|call 3|halt|zero r0 5|not r0|ret", 5, "2|i0:2, 2:0, 2:0, 2:0|2:0||1||1|5|" + e + "|1 & 2|(not i0:2), 2:0, 2:0, 2:0|2:0||1||0|5|" + n + "|0"},
		{"2 1 1|in r0|call 3|halt|zero r0 5|not r0|ret", 4, "2|i0:2, 2:0, 2:0, 2:0|2:0||1||0|4|" + e + "|1 & 5|(not i0:2), 2:0, 2:0, 2:0|2:0|2|1||0|4|" + n + "|0"}, {"2 1 1|in r0|call 3|halt|zero r0 5|not r0|ret", 1, "1|i0:2, 2:0, 2:0, 2:0|2:0||1||0|1||"},
		// The turns and conditions of questions that are constants are left out.
		{"2 1 0|set r0 1|call 3|halt|zero r0 5|not r0|ret", 30, "2|2:2, 2:0, 2:0, 2:0|2:0||0||1|6||"},
		// A failed check in a function that is called from another one; outputs and inputs before the call stay.
		{"2 1 1|in r0|out r0|call 4|halt|call 6|ret|check r0|ret", 30, "6|i0:2, 2:0, 2:0, 2:0|2:0|3 5|1|i0:2|8|5|" + e + "|1 & 3|i0:2, 2:0, 2:0, 2:0|2:0||1|i0:2|1|8|" + n + "|0"},
	} {
		p := readProgram(t, c.program)
		for name, explore := range map[string]func(impl.Program, int, int) ([]impl.Path, bool){"ExploreSummed": impl.ExploreSummed, "Explore": impl.Explore} {
			if got, ok := explore(p, c.fuel, 8); !ok || textOfPaths(got) != c.want {
				t.Errorf("%s(%q, %d) = %s, %v, want %s", name, c.program, c.fuel, textOfPaths(got), ok, c.want)
			}
		}
	}
}

// stepsOf writes the turns, codes and steps of paths.
func stepsOf(l []impl.Path) string {
	var texts []string
	for _, s := range l {
		texts = append(texts, strings.TrimSpace(endsOf([]impl.Path{s})+" "+textOfInts([]int{s.Steps})))
	}
	return strings.Join(texts, ", ")
}

// TestP8ExploreSummedWhereStepsAreTooBig has a function that is too big a step at a time, but not for its summary: so one sees which was taken.
func TestP8ExploreSummedWhereStepsAreTooBig(t *testing.T) {
	// After 4 steps there are 7 nodes in r1. Six times twice as many are too many; the function needs 7 steps for them and 0, one for what comes then, and one for its call.
	head := "2 1 2|in r0|move r1 r0" + doubled("r1", 2)
	inside := doubled("r1", 6) + "|set r1 0"
	for _, c := range []struct {
		name, program string
		fuel, most    int
		want          string
	}{
		{"much fuel", head + "|call 6|halt" + inside + "|ret", 400, 64, "halted 14"}, {"a call that just fits, and the step behind it", head + "|call 6|halt" + inside + "|ret", 14, 64, "halted 14"}, {"a call that just fits", head + "|call 6|halt" + inside + "|ret", 13, 64, "running 13"}, {"one less", head + "|call 6|halt" + inside + "|ret", 12, 64, "big 10"}, {"two less", head + "|call 6|halt" + inside + "|ret", 11, 64, "big 10"}, {"before it is seen", head + "|call 6|halt" + inside + "|ret", 9, 64, "running 9"}, {"one end", head + "|call 6|halt" + inside + "|ret", 400, 1, "halted 14"},
		{"a function that halts", head + "|call 6|halt" + inside + "|halt", 13, 64, "halted 13"}, {"a function that halts, one less", head + "|call 6|halt" + inside + "|halt", 12, 64, "big 10"}, {"a check that fails", head + "|call 6|halt" + inside + "|check r1", 13, 64, "check 13"}, {"a check that fails, one less", head + "|call 6|halt" + inside + "|check r1", 12, 64, "big 10"},
		// The step that CodeEnd takes counts, though it is none of Steps.
		{"a function that ends", head + "|call 6|halt" + inside + "|jump 14", 14, 64, "end 13"}, {"a function that ends, one less", head + "|call 6|halt" + inside + "|jump 14", 13, 64, "big 10"}, {"a function at the end", head + "|call 6|halt" + inside, 13, 64, "end 12"}, {"a function at the end, one less", head + "|call 6|halt" + inside, 12, 64, "big 10"},
		{"a call in a function", head + "|call 6|halt|call 8|ret" + inside + "|ret", 400, 64, "halted 16"}, {"a call in a function in a function", head + "|call 6|halt|call 8|ret|call 10|ret" + inside + "|ret", 400, 64, "halted 18"}, {"a call too many", head + "|call 6|halt|call 8|ret|call 10|ret|call 12|ret" + inside + "|ret", 400, 64, "stack 8"},
		{"one call behind another", head + "|call 7|call 7|halt" + inside + "|ret", 400, 64, "halted 23"}, {"one call behind another, for which there is just enough fuel", head + "|call 7|call 7|halt" + inside + "|ret", 22, 64, "running 22"}, {"the second call does not fit, but is not too big", head + "|call 7|call 7|halt" + inside + "|ret", 21, 64, "running 21"},
		// The summary fails.
		{"an input in the function", head + "|call 6|halt|in r0" + inside + "|ret", 400, 64, "big 11"}, {"an output in the function", head + "|call 6|halt|out r0" + inside + "|ret", 400, 64, "big 11"}, {"an output that the path does not come to", head + "|call 6|halt|zero r2 8|out r0" + inside + "|ret", 400, 64, "big 11"}, {"an output that no path comes to", head + "|call 6|halt|jump 8|out r0" + inside + "|ret", 400, 64, "halted 15"},
		{"a loop beside the way", head + "|call 6|halt|zero r2 8|jump 7" + inside + "|ret", 400, 64, "big 11"}, {"more ends than there may be", head + "|call 6|halt|zero r2 8|ret" + inside + "|ret", 400, 1, "big 11"}, {"just as many ends", head + "|call 6|halt|zero r2 8|ret" + inside + "|ret", 400, 2, "halted 15"},
		{"a summary that is too big", head + "|call 6|halt" + doubled("r1", 7) + "|set r1 0|ret", 400, 64, "big 10"}, {"fuel that is too little for a way that is not taken", head + "|call 6|halt|zero r2 15" + strings.Repeat("|set r3 3", 8) + inside + "|ret", 15, 64, "big 11"}, {"a way that is not taken may be longer than what is left", head + "|call 6|halt|zero r2 15" + strings.Repeat("|set r3 3", 8) + inside + "|ret", 16, 64, "halted 15"},
		// The summary cannot be applied, as a term gets too big.
		{"a term that is too big", head + "|call 6|halt" + doubled("r1", 6) + "|ret", 400, 64, "big 10"}, {"a term with enough room", head + "|call 6|halt" + doubled("r1", 4) + "|ret", 400, 64, "halted 11"},
		// One of two paths does not fit, so that both go a step at a time.
		{"two ways that fit", head + "|call 6|halt" + inside + "|zero r0 15|ret", 14, 64, "1 end 13, 0 running 14"}, {"the longer one of two ways does not fit", head + "|call 6|halt" + inside + "|zero r0 15|ret", 13, 64, "big 10"}, {"the first one of two ways does not fit", head + "|call 6|halt" + inside + "|zero r0 15|halt|jump 16|ret", 14, 64, "big 10"}, {"all ways fit", head + "|call 6|halt" + inside + "|zero r0 15|halt|jump 16|ret", 15, 64, "1 running 15, 0 halted 14"},
	} {
		p := readProgram(t, c.program)
		got, ok := impl.ExploreSummed(p, c.fuel, c.most)
		if text := strings.TrimSpace(stepsOf(got)); !ok || text != c.want {
			t.Errorf("%s: ExploreSummed(%q, %d, %d) = %s, %v, want %s", c.name, c.program, c.fuel, c.most, text, ok, c.want)
		}
		mustSumAs(t, p, c.fuel, c.most)
	}
}

// mustSumAs compares ExploreSummed with the document's text; it returns the text's exploration.
func mustSumAs(t *testing.T, p impl.Program, fuel, most int) *slowSum {
	t.Helper()
	x := slowExploreSummed(p, fuel, most)
	got, ok := impl.ExploreSummed(p, fuel, most)
	if ok != (len(x.ends) <= most) || ok && textOfPaths(got) != textOfPaths(x.ends) || !ok && len(got) > 0 {
		t.Errorf("ExploreSummed(%s, %d, %d) = %s, %v, want %s", dumpProgram(p), fuel, most, textOfPaths(got), ok, textOfPaths(x.ends))
	}
	return x
}

func TestP8ExploreSummedOfManyEnds(t *testing.T) {
	function := func(n int) string { return "2 1 1|in r0|call 3|halt" + zeros(3, n) + "|ret" }
	for _, c := range []struct {
		program    string
		most, want int
	}{
		{function(6), 64, 64}, {function(6), 63, -1}, {function(7), 64, -1}, {function(3), 8, 8}, {function(3), 7, -1}, {function(0), 1, 1},
		// A summary has at most as many ends as there may be in all.
		{"2 1 1|in r0|zero r0 2|call 4|halt" + zeros(4, 5) + "|ret", 64, 64}, {"2 1 1|in r0|zero r0 2|call 4|halt" + zeros(4, 5) + "|ret", 63, -1},
	} {
		p := readProgram(t, c.program)
		got, ok := impl.ExploreSummed(p, 400, c.most)
		if ok != (c.want >= 0) || ok && len(got) != c.want || !ok && len(got) > 0 {
			t.Errorf("ExploreSummed(%q, %d) has %d ends, %v, want %d", c.program, c.most, len(got), ok, c.want)
		}
		mustSumAs(t, p, 400, c.most)
	}
}

// TestP8ExploreSummedOfAny compares with the document's text, with just as many ends as there are and with one less.
func TestP8ExploreSummedOfAny(t *testing.T) {
	m := maker{state: 373}
	summed, plain, failed := 0, 0, 0
	for k, p := range append(callingPrograms(900), forkingPrograms(60)...) {
		fuel := 1 + m.below(40)
		if k%10 == 0 {
			fuel = []int{0, 400}[m.below(2)]
		}
		x := mustSumAs(t, p, fuel, 64)
		summed, plain = summed+x.summed, plain+x.plain
		for _, most := range []int{1, len(x.ends) - 1, len(x.ends), len(x.ends) + 1} {
			if most >= 1 && most <= 64 && len(x.ends) <= 64 {
				mustSumAs(t, p, fuel, most)
			}
		}
		if len(x.ends) > 64 {
			failed++
		}
	}
	if summed < 1000 || plain < 250 || failed < 3 {
		t.Errorf("only %d calls by summaries and %d others, and %d programs with too many ends", summed, plain, failed)
	}
}

// TestP8SummedEndsAreRuns compares ends with the runs of all tests, with their steps.
func TestP8SummedEndsAreRuns(t *testing.T) {
	m := maker{state: 379}
	runs := 0
	for k, p := range callingPrograms(900) {
		fuel := m.below(40)
		if k%10 == 0 {
			fuel = 400
		}
		ends, ok := impl.ExploreSummed(p, fuel, 64)
		if !ok {
			continue
		}
		for _, in := range allWords(p) {
			held := impl.EndsFor(p, ends, in)
			if len(held) != 1 {
				t.Errorf("%d ends of %s hold for %v", len(held), dumpProgram(p), in)
				continue
			}
			end := ends[held[0]]
			state, ok := impl.EvalPath(p, end, in)
			if want := impl.RunProgram(p, in, fuel); end.Code != impl.CodeBig && (!ok || textOfState(state) != textOfState(want)) {
				t.Errorf("an end of %s has the state %s for %v and %d steps, want %s", dumpProgram(p), textOfState(state), in, fuel, textOfState(want))
			}
			if end.Code != impl.CodeBig {
				runs++
			}
		}
	}
	if runs < 8000 {
		t.Errorf("only %d runs", runs)
	}
}

func TestP8ExploreSummedInvalid(t *testing.T) {
	checkInvalidExploring(t, "ExploreSummed", impl.ExploreSummed)
}
