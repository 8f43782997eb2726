package tests

import (
	"slices"
	"strings"
	"testing"

	"loop.example/g03219/impl"
)

func TestP1NextOf(t *testing.T) {
	for _, c := range []struct{ ins, want string }{
		{"set r0 1", "2"}, {"move r0 r1", "2"}, {"add r0 r1", "2"}, {"div r0 r1", "2"}, {"below r0 r1", "2"}, {"not r0", "2"}, {"in r0", "2"}, {"out r0", "2"}, {"load r0 r1", "2"}, {"store r0 r1", "2"}, {"check r0", "2"},
		{"jump 0", "0"}, {"jump 1", "1"}, {"jump 2", "2"}, {"jump 4", "4"}, {"ret", ""}, {"halt", ""},
		{"zero r3 0", "0 2"}, {"zero r3 1", "1 2"}, {"zero r3 2", "2"}, {"zero r3 3", "2 3"}, {"zero r3 4", "2 4"},
		{"call 0", "0 2"}, {"call 1", "1 2"}, {"call 2", "2"}, {"call 3", "2 3"}, {"call 4", "2 4"},
	} {
		p := readProgram(t, "3 2 1|halt|"+c.ins+"|halt|halt")
		if got := textOfInts(impl.NextOf(p, 1)); got != c.want {
			t.Errorf("NextOf after %s = %s, want %s", c.ins, got, c.want)
		}
		// The same instruction as the last one of two: what comes next may be the end.
		if strings.ContainsAny(c.ins, "34") {
			continue
		}
		p = readProgram(t, "3 2 1|halt|"+c.ins)
		if got := textOfInts(impl.NextOf(p, 1)); got != c.want {
			t.Errorf("NextOf after %s at the end = %s, want %s", c.ins, got, c.want)
		}
	}
	p := readProgram(t, "3 2 1|halt|zero r3 2")
	if got := textOfInts(impl.NextOf(p, 1)); got != "2" {
		t.Errorf("NextOf of zero with the end = %s", got)
	}
	for _, pc := range append([]int{40}, oddInts...) {
		if got := impl.NextOf(p, pc); len(got) != 0 && pc != 1 {
			t.Errorf("NextOf at %d = %v", pc, got)
		}
	}
	for _, bad := range badPrograms() {
		for pc := range 3 {
			if got := impl.NextOf(bad, pc); len(got) != 0 {
				t.Errorf("NextOf(%.300s, %d) = %v", dumpProgram(bad), pc, got)
			}
		}
	}
}

func TestP1ReachedOfAndLoopHeads(t *testing.T) {
	for _, c := range []struct{ program, reached, heads string }{
		{"2 1 0|halt", "0", ""}, {"2 1 0|ret", "0", ""}, {"2 1 0|not r0", "0 1", ""}, {"2 1 0|jump 0", "0", "0"}, {"2 1 0|jump 1", "0 1", ""}, {"2 1 0|zero r0 0", "0 1", "0"}, {"2 1 0|zero r0 1", "0 1", ""}, {"2 1 0|call 0", "0 1", "0"}, {"2 1 0|call 1", "0 1", ""},
		{"3 2 1|in r0|set r1 3|add r0 r1|zero r0 6|out r0|halt|check r0", "0 1 2 3 4 5 6 7", ""},
		{"3 2 1|jump 2|not r0|halt", "0 2", ""}, {"3 2 1|jump 3|not r0|jump 1|halt", "0 3", ""}, {"3 2 1|jump 2|not r0|jump 1", "0 1 2", "1"},
		// Loops that are not reached, in part or not at all.
		{"3 2 1|halt|jump 1|jump 0|jump 2", "0", ""}, {"3 2 1|jump 3|zero r0 1|jump 0|zero r1 3|halt|jump 4", "0 3 4", "3"}, {"3 2 1|zero r0 3|halt|jump 0|jump 1", "0 1 3", "1"},
		// One inside the other, and two with the same head.
		{"3 2 1|set r0 3|set r1 2|zero r1 4|jump 2|zero r0 6|jump 1", "0 1 2 3 4 5 6", "1 2"}, {"3 2 1|zero r0 3|zero r1 0|jump 0|halt", "0 1 2 3", "0"}, {"3 2 1|zero r0 4|zero r0 5|zero r0 6|halt|jump 2|jump 1|jump 0", "0 1 2 3 4 5 6", "0 1 2"},
		// What is behind a call is reached, whether the call returns or not.
		{"3 2 1|call 3|out r0|halt|halt|jump 4", "0 1 2 3", ""}, {"3 2 1|call 3|jump 0|halt|call 3|ret", "0 1 3 4", "0 3"},
	} {
		p := readProgram(t, c.program)
		if got := textOfInts(impl.ReachedOf(p)); got != c.reached {
			t.Errorf("ReachedOf(%q) = %s, want %s", c.program, got, c.reached)
		}
		if got := textOfInts(impl.LoopHeads(p)); got != c.heads {
			t.Errorf("LoopHeads(%q) = %s, want %s", c.program, got, c.heads)
		}
	}
	for _, bad := range badPrograms() {
		if reached, heads := impl.ReachedOf(bad), impl.LoopHeads(bad); len(reached) != 0 || len(heads) != 0 {
			t.Errorf("ReachedOf and LoopHeads(%.300s) = %v, %v", dumpProgram(bad), reached, heads)
		}
	}
}

// TestP1LongestWays has programs of MaxCode instructions whose places are reached in the order of their numbers or the other way round.
func TestP1LongestWays(t *testing.T) {
	p := impl.Program{W: 8, Mem: 6, In: 3, Code: slices.Repeat([]impl.Ins{ins(10, 0, 0, 0)}, 40)}
	var all []int
	for pc := range 41 {
		all = append(all, pc)
	}
	if reached, heads := impl.ReachedOf(p), impl.LoopHeads(p); !slices.Equal(reached, all) || textOfInts(heads) != "0" {
		t.Errorf("ReachedOf and LoopHeads = %v, %v", reached, heads)
	}
	for pc := range 40 {
		p.Code[pc] = ins(9, 0, max(pc-1, 1), 0)
	}
	p.Code[0], p.Code[1] = ins(9, 0, 39, 0), ins(9, 0, 40, 0)
	if reached, heads := impl.ReachedOf(p), impl.LoopHeads(p); !slices.Equal(reached, all) || !slices.Equal(heads, all[1:39]) {
		t.Errorf("ReachedOf and LoopHeads = %v, %v", reached, heads)
	}
}

func TestP1PlacesOfAny(t *testing.T) {
	for _, p := range somePrograms(1500) {
		for pc := range p.Code {
			if got, want := impl.NextOf(p, pc), slowNext(p, pc); !slices.Equal(got, want) {
				t.Errorf("NextOf(%s, %d) = %v, want %v", dumpProgram(p), pc, got, want)
			}
		}
		if got, want := impl.ReachedOf(p), slowReached(p); !slices.Equal(got, want) {
			t.Errorf("ReachedOf(%s) = %v, want %v", dumpProgram(p), got, want)
		}
		if got, want := impl.LoopHeads(p), slowHeads(p); !slices.Equal(got, want) {
			t.Errorf("LoopHeads(%s) = %v, want %v", dumpProgram(p), got, want)
		}
	}
}

// behindCalls returns the places to which a return may go.
func behindCalls(p impl.Program) []int {
	var l []int
	for pc, i := range p.Code {
		if i.Op == impl.InsCall {
			l = append(l, pc+1)
		}
	}
	return l
}

// TestP1RunsGoWhereTheirProgramsLead checks that runs go on by NextOf or return behind a call, that they stay at places that are reached, and that
// between two visits of a place there is the head of a loop or a return.
func TestP1RunsGoWhereTheirProgramsLead(t *testing.T) {
	m := maker{state: 53}
	for _, p := range somePrograms(1500) {
		in := m.inputs(p)
		trace := impl.TraceOf(p, in, 400)
		reached, heads := impl.ReachedOf(p), impl.LoopHeads(p)
		if len(trace) == 0 || trace[0] != 0 || !slices.Contains(reached, impl.RunProgram(p, in, 400).Pc) {
			t.Errorf("TraceOf(%s, %v) = %v", dumpProgram(p), in, trace)
		}
		last := map[int]int{}
		passed := 0
		for k, pc := range trace {
			if !slices.Contains(reached, pc) {
				t.Fatalf("the run of %s with %v comes to %d", dumpProgram(p), in, pc)
			}
			back := k > 0 && p.Code[trace[k-1]].Op == impl.InsRet
			ways := behindCalls(p)
			if k > 0 && !back {
				ways = impl.NextOf(p, trace[k-1])
			}
			if k > 0 && !slices.Contains(ways, pc) {
				t.Fatalf("the run of %s with %v goes from %d to %d", dumpProgram(p), in, trace[k-1], pc)
			}
			if back || slices.Contains(heads, pc) {
				passed = k + 1
			}
			if before, again := last[pc]; again && passed <= before {
				t.Fatalf("the run of %s with %v comes to %d again without the head of a loop", dumpProgram(p), in, pc)
			}
			last[pc] = k + 1
		}
	}
}
