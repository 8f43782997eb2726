package tests

import (
	"slices"
	"strings"
	"testing"

	"loop.example/g03219/impl"
)

// doubled are instructions that make a term of 2^(n+1) - 1 nodes of one in a register.
func doubled(register string, n int) string {
	return strings.Repeat("|mul "+register+" "+register, n)
}

// bigWord are 17 instructions that put a term of 237 nodes into r0: its question and the opposite of it are valid, but no AllOf of one of them.
var bigWord = "in r0" + doubled("r0", 2) + "|move r3 r0" + doubled("r0", 2) + "|move r2 r0" + doubled("r0", 1) + "|move r1 r0|mul r0 r1|mul r0 r1|mul r0 r2|mul r0 r3|in r1|mul r0 r1|mul r0 r1|mul r0 r1"

// zeros are n forks, the first one at a place, after which both paths go on at the same place.
func zeros(place, n int) string {
	text := ""
	for k := range n {
		text += "|zero r0 " + textOfInts([]int{place + k + 1})
	}
	return text
}

// TestP8ExploreMerged has the ends in full.
func TestP8ExploreMerged(t *testing.T) {
	for _, c := range []struct {
		program string
		fuel    int
		want    string
	}{
		{"2 1 0|halt", 0, "0|2:0, 2:0, 2:0, 2:0|2:0||0||0|0||"}, {"2 1 0|halt", 1, "0|2:0, 2:0, 2:0, 2:0|2:0||0||1|1||"}, {"2 1 0|not r0", 2, "1|2:3, 2:0, 2:0, 2:0|2:0||0||2|1||"}, {"2 1 0|jump 0", 400, "0|2:0, 2:0, 2:0, 2:0|2:0||0||0|400||"}, {"2 1 0|jump 0", 399, "0|2:0, 2:0, 2:0, 2:0|2:0||0||0|399||"},
		// A place to which one path comes at once, and the other one after a step.
		{"2 1 1|in r0|zero r0 3|set r1 1|out r1|halt", 30, "4|i0:2, (if (eq 2:0 i0:2) 2:0 2:1), 2:0, 2:0|2:0||1|(if (eq 2:0 i0:2) 2:0 2:1)|1|5|(or (not (eq 2:0 i0:2)) (eq 2:0 i0:2))|"},
		{"2 1 1|in r0|zero r0 3|set r1 1|out r1|halt", 4, "4|i0:2, (if (eq 2:0 i0:2) 2:0 2:1), 2:0, 2:0|2:0||1|(if (eq 2:0 i0:2) 2:0 2:1)|0|4|(or (not (eq 2:0 i0:2)) (eq 2:0 i0:2))|"},
		// Open paths that are left, which are merged last or cannot be merged.
		{"2 1 1|in r0|zero r0 3|set r1 1|out r1|halt", 3, "3|i0:2, (if (eq 2:0 i0:2) 2:0 2:1), 2:0, 2:0|2:0||1||0|3|(or (not (eq 2:0 i0:2)) (eq 2:0 i0:2))|"},
		{"2 1 1|in r0|zero r0 3|set r1 1|out r1|halt", 2, "3|i0:2, 2:0, 2:0, 2:0|2:0||1||0|2|(eq 2:0 i0:2)|1 & 2|i0:2, 2:0, 2:0, 2:0|2:0||1||0|2|(not (eq 2:0 i0:2))|0"},
		// Three ends at the same InsHalt, which are merged last.
		{"2 1 2|in r0|in r1|zero r0 4|halt|zero r1 6|jump 3|jump 3", 30, "3|i0:2, i1:2, 2:0, 2:0|2:0||2||1|6|(or (and (eq 2:0 i0:2) (eq 2:0 i1:2)) (or (not (eq 2:0 i0:2)) (and (not (eq 2:0 i1:2)) (eq 2:0 i0:2))))|"},
		// A fork of which both paths go on at the same place, in a function that is called twice.
		{"2 1 1|in r0|call 4|call 4|halt|zero r0 5|ret", 30, "3|i0:2, 2:0, 2:0, 2:0|2:0||1||1|8|(or (not (eq 2:0 i0:2)) (eq 2:0 i0:2)), (or (not (eq 2:0 i0:2)) (eq 2:0 i0:2))|"},
		// Both paths fail in the same way.
		{"2 1 1|in r0|zero r0 3|set r1 1|in r2", 30, "3|i0:2, (if (eq 2:0 i0:2) 2:0 2:1), 2:0, 2:0|2:0||1||3|4|(or (not (eq 2:0 i0:2)) (eq 2:0 i0:2))|"},
	} {
		p := readProgram(t, c.program)
		got, ok := impl.ExploreMerged(p, c.fuel, 64)
		if !ok || textOfPaths(got) != c.want {
			t.Errorf("ExploreMerged(%q, %d) = %s, %v, want %s", c.program, c.fuel, textOfPaths(got), ok, c.want)
		}
	}
}

// TestP8ExploreMergedOrder has the turns and codes of ends in the order in which rounds give them; for turns, those that all paths that were merged have count.
func TestP8ExploreMergedOrder(t *testing.T) {
	branches := func(places, a, b, c string) string {
		return "2 1 2|in r0|in r1" + places + a + b + c
	}
	one, two := "|move r2 r0"+doubled("r2", 6), "|move r2 r1"+doubled("r2", 6)
	for _, c := range []struct {
		name, program string
		fuel          int
		want          string
	}{
		{"the least place first", "2 1 1|in r0|zero r0 3|halt|out r0", 30, "0 halted, 1 end"}, {"the least place is that of the first path", "2 1 1|in r0|jump 3|halt|zero r0 2|out r0", 30, "1 halted, 0 end"},
		{"the longest stack before the least place", "2 1 1|in r0|zero r0 5|call 7|halt|halt|out r0|halt|not r0|ret", 30, "0 halted, 1 halted"}, {"a longer stack with a greater place", "2 1 1|in r0|zero r0 4|out r0|halt|call 5|call 6|halt", 30, "0 halted, 1 halted"},
		{"the least place of two with a stack", "2 1 1|in r0|call 3|halt|zero r0 6|out r0|ret|out r0|out r0|ret", 30, "0 halted, 1 halted"},
		{"the first one of two at a place", "2 1 1|in r0|zero r0 3|out r0|halt", 30, "1 halted, 0 halted"}, {"the one that came first is that of the second path", "2 1 1|in r0|zero r0 3|jump 5|out r0|not r0|halt", 30, "0 halted, 1 halted"},
		{"merged with the third one, not with the second one", "2 1 2|in r0|in r1|zero r0 7|zero r1 6|out r0|jump 7|not r1|halt", 30, " halted, 0 0 halted"},
		{"a merge that fails in the midst of a round", branches("|zero r0 20|zero r1 12", one+"|jump 21", two+"|jump 21", "|not r3|halt"), 60, " halted, 0 1 halted"},
		{"what was merged is too big for the third one", branches("|zero r0 18|zero r1 11", one[:len(one)-10]+"|jump 25", two[:len(two)-10]+"|jump 25", "|move r2 r0"+doubled("r2", 6)+"|halt"), 60, "0 halted, 1 halted"},
		{"ends that are merged last, where the second one fails", branches("|jump 4|halt|zero r0 22|zero r1 14", one+"|jump 3", two+"|jump 3", "|jump 3"), 60, " halted, 0 1 halted"},
		{"ends that are merged last, where the first one fails", branches("|jump 4|halt|zero r0 22|zero r1 14", one+"|jump 3", two+"|jump 3", two+"|jump 3"), 60, "0 0 halted,  halted"},
		{"an end with other outputs before two that are merged", "2 1 2|in r0|in r1|zero r0 4|halt|out r0|zero r1 7|jump 3|jump 3", 30, "0 halted, 1 halted"},
		// A loop that all inputs may leave at each time.
		{"a loop, with open paths that are left", "2 1 1|in r0|set r1 1|zero r0 5|sub r0 r1|jump 2|out r0|halt", 3, "1 running, 0 running"}, {"the same for 8 rounds", "2 1 1|in r0|set r1 1|zero r0 5|sub r0 r1|jump 2|out r0|halt", 8, " running, 0 0 running"}, {"the same for 9 rounds", "2 1 1|in r0|set r1 1|zero r0 5|sub r0 r1|jump 2|out r0|halt", 9, " running, 0 0 0 running"},
		{"open paths behind an end", "2 1 1|in r0|zero r0 3|halt|out r0", 3, "0 halted, 1 running"}, {"no round", "2 1 1|in r0|zero r0 3|halt|out r0", 0, " running"},
		{"a call that is too deep beside another end", "2 1 1|in r0|zero r0 3|call 2|halt", 30, "0 stack, 1 halted"},
	} {
		p := readProgram(t, c.program)
		got, ok := impl.ExploreMerged(p, c.fuel, 64)
		if !ok || endsOf(got) != c.want {
			t.Errorf("%s: ExploreMerged(%q, %d) = %s, %v, want %s", c.name, c.program, c.fuel, endsOf(got), ok, c.want)
		}
		mustMergeAs(t, p, c.fuel)
	}
}

// mustMergeAs compares ExploreMerged with the document's text, with just as many ends as there are and with one less; it returns how many there are, or -1.
func mustMergeAs(t *testing.T, p impl.Program, fuel int) int {
	t.Helper()
	want, fine := slowExploreMerged(p, fuel, 64)
	for _, most := range []int{1, len(want) - 1, len(want), len(want) + 1, 64} {
		if most < 1 || most > 64 {
			continue
		}
		got, ok := impl.ExploreMerged(p, fuel, most)
		if ok != (fine && len(want) <= most) || ok && textOfPaths(got) != textOfPaths(want) || !ok && len(got) > 0 {
			t.Errorf("ExploreMerged(%s, %d, %d) = %s, %v, want %s, %v", dumpProgram(p), fuel, most, textOfPaths(got), ok, textOfPaths(want), fine)
		}
	}
	if !fine {
		return -1
	}
	return len(want)
}

// TestP8ExploreMergedOfManyPaths has as many open paths or ends on the way as there may be, and one more.
func TestP8ExploreMergedOfManyPaths(t *testing.T) {
	// Each path has another term in r1, until they all have 0 there; one more may wait at the end.
	levels := func(n, waiting int) string {
		first := 8 + waiting
		text := "2 1 2|in r0|in r1" + doubled("r1", 6)
		if waiting == 1 {
			text += "|zero r1 " + textOfInts([]int{first + 2*n + 1})
		}
		for k, op := range []string{"add", "sub", "mul", "and", "or", "xor", "shl"}[:n] {
			text += "|zero r0 " + textOfInts([]int{first + 2*k + 2}) + "|" + op + " r1 r0"
		}
		return text + "|set r1 0|halt"
	}
	loops := "2 1 1|in r0|zero r0 4|check r0|jump 2|not r0|check r0|jump 5"
	for _, c := range []struct {
		name, program string
		fuel, want    int
	}{
		{"forks whose paths cannot be merged", "2 1 2|" + bigWord + zeros(17, 5), 400, 32}, {"as many open paths as there may be", "2 1 2|" + bigWord + zeros(17, 6), 400, 64}, {"the same, before they are ends", "2 1 2|" + bigWord + zeros(17, 7), 80, 64}, {"one open path more", "2 1 2|" + bigWord + zeros(17, 7), 81, -1}, {"many open paths more", "2 1 2|" + bigWord + zeros(17, 7), 400, -1},
		{"ends and open paths that are left", "2 1 2|" + bigWord + strings.Repeat("|check r0", 10) + zeros(27, 6), 80, 64}, {"one open path more that is left", "2 1 2|" + bigWord + strings.Repeat("|check r0", 10) + zeros(27, 6), 81, -1}, {"ends before many open paths", "2 1 2|" + bigWord + strings.Repeat("|check r0", 10) + zeros(27, 6), 90, -1}, {"ends before open paths that become ends", "2 1 2|" + bigWord + strings.Repeat("|check r0", 10) + zeros(27, 6), 400, -1},
		{"as many ends as there may be, with the open path", loops, 128, 0}, {"one end more, with the open path", loops, 129, -1}, {"one end more", loops, 131, -1}, {"many ends more", loops, 400, -1},
		{"open paths that are merged later", levels(6, 0), 400, 0}, {"one open path more, which would be merged later", levels(6, 1), 400, -1}, {"the same with less open paths", levels(5, 1), 400, 0}, {"many open paths more", levels(7, 0), 400, -1},
	} {
		p := readProgram(t, c.program)
		got := mustMergeAs(t, p, c.fuel)
		if c.want == 0 && (got < 1 || got > 40) || c.want != 0 && got != c.want {
			t.Errorf("%s: ExploreMerged of %d rounds has %d ends, want %d", c.name, c.fuel, got, c.want)
		}
	}
	if l, ok := slowExploreMerged(readProgram(t, levels(6, 1)), 400, 65); !ok || len(l) > 64 {
		t.Errorf("there would be %d ends, %v", len(l), ok)
	}
}

// mergingPrograms have loops, calls and forks.
func mergingPrograms(n int) []impl.Program {
	return slices.Concat(forkingPrograms(n), callingPrograms(n), somePrograms(n/8))
}

// TestP8ExploreMergedOfAny compares with the document's text.
func TestP8ExploreMergedOfAny(t *testing.T) {
	m := maker{state: 347}
	fewer, failed := 0, 0
	for k, p := range mergingPrograms(1000) {
		fuel := m.below(40)
		if k%8 == 0 {
			fuel = 400
		}
		n := mustMergeAs(t, p, fuel)
		all, ok := impl.Explore(p, fuel, 64)
		switch {
		case n < 0:
			failed++
		case !ok || len(all) > n:
			fewer++
		}
	}
	if fewer < 150 || failed < 5 {
		t.Errorf("only %d programs with paths that were merged, and %d with too many", fewer, failed)
	}
}

// TestP8MergedEndsDivideTests compares merged ends with the runs of all tests.
func TestP8MergedEndsDivideTests(t *testing.T) {
	m := maker{state: 349}
	finished, running, several := 0, 0, 0
	for _, p := range mergingPrograms(500) {
		fuel := m.below(60)
		ends, ok := impl.ExploreMerged(p, fuel, 64)
		if !ok || p.W*p.In > 6 {
			continue
		}
		if len(ends) > 1 {
			several++
		}
		for _, in := range allWords(p) {
			held := impl.EndsFor(p, ends, in)
			if len(held) != 1 {
				t.Errorf("%d ends of %s hold for %v", len(held), dumpProgram(p), in)
				continue
			}
			end := ends[held[0]]
			if end.Code == impl.CodeRun || end.Code == impl.CodeBig {
				running++
				continue
			}
			finished++
			state, ok := impl.EvalPath(p, end, in)
			want := impl.RunProgram(p, in, 400)
			if state.Steps < want.Steps || state.Steps > fuel {
				t.Errorf("an end of %s has %d steps for %v, and the run %d", dumpProgram(p), state.Steps, in, want.Steps)
			}
			state.Steps = want.Steps
			if !ok || textOfState(state) != textOfState(want) {
				t.Errorf("an end of %s has the state %s for %v, want %s", dumpProgram(p), textOfState(state), in, textOfState(want))
			}
		}
	}
	if finished < 5000 || running < 100 || several < 200 {
		t.Errorf("only %d runs that end and %d others, and %d programs with several ends", finished, running, several)
	}
}

func TestP8ExploreMergedInvalid(t *testing.T) {
	checkInvalidExploring(t, "ExploreMerged", impl.ExploreMerged)
	p := readProgram(t, "3 2 1|in r0|halt")
	for _, most := range []int{1, 64} {
		if got, ok := impl.ExploreMerged(p, 400, most); !ok || endsOf(got) != " halted" {
			t.Errorf("ExploreMerged with %d ends = %s, %v", most, endsOf(got), ok)
		}
	}
}
