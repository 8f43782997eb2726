package tests

import (
	"slices"
	"strings"
	"testing"

	"loop.example/g03219/impl"
)

const (
	// chain has a loop at the place 2; what is in r2 comes into r3 with the next visit.
	chain = "3 1 1|in r0|set r1 1|zero r0 7|move r3 r2|add r2 r1|sub r0 r1|jump 2|halt"
	// transfer has a loop at the place 2 in which r0 becomes less and r2 greater.
	transfer = "3 1 0|set r0 5|set r1 1|zero r0 6|sub r0 r1|add r2 r1|jump 2|halt"
)

func TestP9KeepFacts(t *testing.T) {
	for _, c := range []struct {
		program     string
		pc          int
		facts, want string
	}{
		{chain, 2, "", ""}, {chain, 2, "r1 is 1", "r1 is 1"}, {countdown, 2, "r3 is 0, r1 is 1, r2 same r3", "r3 is 0, r1 is 1, r2 same r3"},
		// They go in the look at the entry.
		{chain, 2, "r0 is 3", ""}, {chain, 2, "r0 is 3, r1 is 1, r1 is 2, r2 is 1, r0 order r1, r1 order r0", "r1 is 1"}, {countdown, 2, "r0 most 6, r0 bit 2 0, r0 sum r1 3, r0 same r2, r0 order r2, r2 order r0, r2 is 0", "r2 order r0, r2 is 0"},
		// In the first look at the body, and those that need them in the second one.
		{chain, 2, "r2 is 0", ""}, {chain, 2, "r2 is 0, r1 is 1", "r1 is 1"}, {chain, 2, "r1 is 1, r2 is 0, r3 is 0", "r1 is 1"}, {chain, 2, "r3 is 0, r2 is 0, r1 is 1", "r1 is 1"}, {chain, 2, "r3 is 0, r1 is 1", "r1 is 1"}, {chain, 2, "r2 most 3, r1 bit 0 1, r3 most 3, r2 same r3", "r1 bit 0 1"},
		{"3 1 0|zero r0 1|move r3 r2|move r2 r1|not r1|jump 1", 1, "r1 is 0, r2 is 0, r3 is 0, r0 is 0, r2 same r3", "r0 is 0"}, {"3 1 0|zero r0 1|move r3 r2|move r2 r1|not r0|jump 1", 1, "r0 is 0, r1 is 0, r2 is 0, r3 is 0, r2 same r3", "r1 is 0, r2 is 0, r3 is 0, r2 same r3"},
		// They stay together, but not one without the other.
		{"3 1 1|in r0|set r1 1|set r2 1|zero r0 7|move r2 r1|sub r0 r1|jump 3|halt", 3, "r2 is 1, r1 is 1", "r2 is 1, r1 is 1"}, {"3 1 1|in r0|set r1 1|set r2 1|zero r0 7|move r2 r1|sub r0 r1|jump 3|halt", 3, "r2 is 1", ""}, {"3 1 1|in r0|set r1 1|set r2 1|zero r0 7|move r2 r1|sub r0 r1|jump 3|halt", 3, "r1 same r2", "r1 same r2"},
		{transfer, 2, "r1 is 1, r0 most 5, r2 most 5, r0 sum r2 5", "r1 is 1, r0 most 5, r2 most 5, r0 sum r2 5"}, {transfer, 2, "r0 most 5, r2 most 5, r0 sum r2 5", "r0 sum r2 5"}, {transfer, 2, "r1 is 1, r2 most 5", "r1 is 1"}, {transfer, 2, "r1 is 1, r0 most 5", "r1 is 1, r0 most 5"}, {transfer, 2, "r3 order r2, r3 order r0, r3 is 0, r0 sum r2 5", "r3 order r2, r3 order r0, r3 is 0, r0 sum r2 5"},
		// Twice the same.
		{chain, 2, "r1 is 1, r1 is 1", "r1 is 1, r1 is 1"}, {chain, 2, "r2 is 0, r1 is 1, r2 is 0, r1 is 1", "r1 is 1, r1 is 1"}, {chain, 2, "r0 is 1, r0 is 1", ""},
		// No path arrives: from the entry, from the body, or from both.
		{"3 1 0|halt|not r0|jump 1", 1, "r0 is 1, r1 is 3", "r1 is 3"}, {"3 1 0|halt|not r0|jump 1", 1, "r0 is 1, r0 is 2", "r0 is 1, r0 is 2"}, {"3 1 0|halt|not r0|jump 1", 1, "r0 same r1", ""}, {"3 1 0|halt|not r0|jump 1", 1, "r0 same r1, r0 is 1, r1 is 2", "r0 same r1, r0 is 1, r1 is 2"}, {"3 1 1|in r0|halt", 1, "r0 is 0, r1 is 0, r0 same r1, r1 order r0", "r1 is 0, r1 order r0"}, {"3 1 0|halt", 1, "r0 is 5, r0 is 6, r2 order r3", "r0 is 5, r0 is 6, r2 order r3"},
		// Of several paths that arrive, one keeps it and another one does not.
		{"3 1 1|in r0|zero r0 3|set r1 2|halt", 3, "r1 is 0, r1 most 2, r1 is 2, r1 bit 0 0, r1 bit 1 1", "r1 most 2, r1 bit 0 0"}, {"3 1 0|zero r1 2|set r1 1|zero r0 0|not r2|jump 0", 0, "r1 most 1, r2 is 0, r2 same r3, r1 order r3", "r1 most 1, r1 order r3"}, {"3 1 0|zero r1 2|set r1 1|zero r0 0|not r2|jump 0", 0, "r1 most 1, r2 is 0, r1 is 0, r2 same r3, r1 order r3", "r1 most 1, r1 is 0, r1 order r3"},
		// Inputs of the body are any words; outputs make no difference.
		{"3 1 1|in r0|jump 0", 0, "r0 is 0, r1 is 0, r0 same r1, r1 order r0", "r1 is 0, r1 order r0"}, {"3 1 0|out r0|jump 0", 0, "r0 is 0, r0 same r1", "r0 is 0, r0 same r1"}, {"3 1 0|in r0|jump 0", 0, "r0 is 0, r1 is 0", "r1 is 0"},
		// Cells are any words in the body.
		{"3 1 0|load r0 r1|jump 0", 0, "r0 is 0, r1 is 0", "r1 is 0"}, {"3 1 0|store r0 r0|load r0 r0|jump 0", 0, "r0 is 0", "r0 is 0"},
	} {
		p := readProgram(t, c.program)
		l := readFacts(t, p.W, c.facts)
		got, ok := impl.KeepFacts(p, c.pc, l, 20, 8, 200)
		if !ok || textOfFacts(got) != c.want {
			t.Errorf("KeepFacts(%q, %d, %s) = %s, %v, want %s", c.program, c.pc, c.facts, textOfFacts(got), ok, c.want)
		}
	}
}

func mustNotKeep(t *testing.T, p impl.Program, pc int, l []impl.Fact, fuel, most, limit int) {
	t.Helper()
	if got, ok := impl.KeepFacts(p, pc, l, fuel, most, limit); ok || len(got) != 0 {
		t.Errorf("KeepFacts(%.300s, %d, %s, %d, %d, %d) = %s, %v", dumpProgram(p), pc, textOfFacts(l), fuel, most, limit, textOfFacts(got), ok)
	}
}

// evenWord are instructions that put a term of n nodes into r0, at least 226 of them, which is even for all inputs, and the second input into r2.
func evenWord(n int) string {
	text := "in r0|add r0 r0" + doubled("r0", 3) + "|move r1 r0" + doubled("r0", 1) + "|move r3 r0" + doubled("r0", 1) + "|mul r0 r3|mul r0 r1|set r3 0|in r1|move r2 r1"
	// There are 223 nodes so far.
	left := n - 223
	if left%2 == 1 {
		text += "|not r1|mul r0 r1|not r1"
		left -= 3
	}
	return text + strings.Repeat("|mul r0 r1", left/2)
}

// placesIn is the number of instructions of a text of them.
func placesIn(text string) int {
	return strings.Count(text, "|") + 1
}

// TestP9KeepFactsOfBigTerms has a fact that is true, and terms of it for which there is just enough room, or not: it goes then, and others stay.
func TestP9KeepFactsOfBigTerms(t *testing.T) {
	for _, c := range []struct {
		// What comes behind the big word in r0, and the facts that stay in any case.
		behind, others string
		fact           string
		// The greatest number of nodes with which the fact stays, and the greatest one with which the place is reached.
		room, most int
	}{
		// OpOr of 0 and the term of the fact, which has two nodes more than the word, or three.
		{"", "r3 is 0", "r0 bit 0 0", 236, 239}, {"", "r3 is 0, r3 most 1", "r0 most 2", 235, 239}, {"", "r3 is 0", "r3 order r0", 238, 239},
		// OpNot of OpOr of (eq 2:0 i1:2) and the term of the fact.
		{"|check r2", "r3 is 0, r3 most 0, r3 bit 1 0", "r0 bit 0 0", 233, 239}, {"|check r2", "r3 is 0", "r0 most 2", 232, 239},
		// PathTerm of a condition with three nodes more than the word; OpOr of OpNot of two conditions and 1.
		{"|check r0", "", "r3 is 0", 235, 237}, {"|check r0|check r2", "", "r3 most 1", 229, 237},
	} {
		for n := 226; n <= c.most; n++ {
			word := evenWord(n)
			p := readProgram(t, "2 1 2|"+word+c.behind+"|halt")
			pc := placesIn(word + c.behind)
			for _, text := range []string{c.fact + ", " + c.others, c.others + ", " + c.fact} {
				text, want := strings.Trim(text, ", "), c.others
				if n <= c.room {
					want = text
				}
				got, ok := impl.KeepFacts(p, pc, readFacts(t, 2, text), 60, 8, 200)
				if !ok || textOfFacts(got) != want {
					t.Errorf("KeepFacts with %d nodes, %q and %s = %s, %v", n, c.behind, text, textOfFacts(got), ok)
				}
			}
		}
		if c.most < 239 {
			word := evenWord(c.most + 1)
			mustNotKeep(t, readProgram(t, "2 1 2|"+word+c.behind+"|halt"), placesIn(word+c.behind), nil, 60, 8, 200)
		}
	}
}

func TestP9KeepFactsFails(t *testing.T) {
	one := fact(1, 1, 0, 1)
	for _, text := range callingTexts {
		for pc := range 2 {
			mustNotKeep(t, readProgram(t, text), pc, nil, 400, 64, 3000)
			mustNotKeep(t, readProgram(t, text), pc, []impl.Fact{one}, 400, 64, 3000)
		}
	}
	// Too little fuel or room for the paths of the entry, or for those of the body, which are asked for also if there are no facts.
	entry := "3 1 1|in r0|not r1|zero r0 3|jump 4|jump 4"
	body := "3 1 0|zero r0 1|zero r1 2|not r2|jump 1"
	for _, c := range []struct {
		program        string
		pc, fuel, most int
	}{
		{entry, 4, 4, 2}, {body, 1, 3, 2}, {chain, 2, 5, 2}, {transfer, 2, 4, 2},
	} {
		p := readProgram(t, c.program)
		for _, l := range [][]impl.Fact{nil, {one}, {fact(1, 0, 0, 7)}} {
			if _, ok := impl.KeepFacts(p, c.pc, l, c.fuel, c.most, 200); !ok {
				t.Errorf("KeepFacts of %q and %s fails", c.program, textOfFacts(l))
			}
			mustNotKeep(t, p, c.pc, l, c.fuel-1, c.most, 200)
			mustNotKeep(t, p, c.pc, l, c.fuel, c.most-1, 200)
		}
	}
	for _, l := range [][]impl.Fact{nil, {one}} {
		// The body never ends; the entry never does.
		mustNotKeep(t, readProgram(t, "3 1 0|halt|jump 2|jump 2"), 1, l, 400, 64, 200)
		mustNotKeep(t, readProgram(t, "3 1 0|jump 0|halt"), 1, l, 400, 64, 200)
	}
	// More facts stay than there may be conditions.
	p := readProgram(t, "3 1 0|set r1 1|jump 1")
	mustNotKeep(t, p, 1, repeatedFact(one, 61), 400, 64, 200)
	for _, n := range []int{59, 60} {
		l := append(repeatedFact(one, n), fact(1, 0, 0, 5), fact(1, 0, 0, 6))
		if got, ok := impl.KeepFacts(p, 1, l, 400, 64, 200); !ok || textOfFacts(got) != textOfFacts(l[:n]) {
			t.Errorf("KeepFacts of %d facts, of which two go, = %s, %v", n+2, textOfFacts(got), ok)
		}
	}
	// There are too many only for a body with a question.
	p = readProgram(t, "3 1 0|set r1 1|zero r0 1|jump 1")
	mustNotKeep(t, p, 1, repeatedFact(one, 60), 400, 64, 200)
	if got, ok := impl.KeepFacts(p, 1, repeatedFact(one, 59), 400, 64, 200); !ok || len(got) != 59 {
		t.Errorf("KeepFacts of 59 facts = %s, %v", textOfFacts(got), ok)
	}
}

// TestP9KeepFactsWithLimits has facts for which some splits are needed; without them everything is left open.
func TestP9KeepFactsWithLimits(t *testing.T) {
	for _, c := range []struct {
		program      string
		pc           int
		facts        string
		needed       int
		without, all string
	}{
		{transfer, 2, "r1 is 1, r0 most 5, r2 most 5, r0 sum r2 5", 4, "r1 is 1", "r1 is 1, r0 most 5, r2 most 5, r0 sum r2 5"},
		{"3 1 2|in r0|in r1|and r1 r0|halt", 3, "r1 order r0", 7, "", "r1 order r0"}, {"3 1 1|in r0|move r1 r0|move r2 r0|and r1 r3|halt", 4, "r0 same r2, r1 is 0, r1 order r2", 0, "r0 same r2, r1 is 0, r1 order r2", "r0 same r2, r1 is 0, r1 order r2"},
	} {
		p := readProgram(t, c.program)
		l := readFacts(t, 3, c.facts)
		before := 0
		for limit := range 60 {
			want, _, fine := slowLoop{p: p, pc: c.pc, fuel: 20, most: 8}.keep(l, limit)
			got, ok := impl.KeepFacts(p, c.pc, l, 20, 8, limit)
			if !ok || !fine || textOfFacts(got) != textOfFacts(want) || len(got) < before {
				t.Errorf("KeepFacts of %q, %s with %d splits = %s, %v, want %s", c.program, c.facts, limit, textOfFacts(got), ok, textOfFacts(want))
			}
			before = len(got)
			if limit == 0 && textOfFacts(got) != c.without || limit >= c.needed && textOfFacts(got) != c.all || limit < c.needed && textOfFacts(got) == c.all {
				t.Errorf("KeepFacts of %q, %s with %d splits = %s", c.program, c.facts, limit, textOfFacts(got))
			}
		}
	}
}

func TestP9KeepFactsInvalid(t *testing.T) {
	good := fact(1, 1, 0, 0)
	for _, l := range [][]impl.Fact{nil, {good}} {
		checkInvalidLoops(t, "KeepFacts", func(p impl.Program, pc, fuel, most int) bool {
			facts, ok := impl.KeepFacts(p, pc, l, fuel, most, 200)
			return ok || len(facts) != 0
		})
		for _, limit := range badLimits {
			mustNotKeep(t, readProgram(t, "3 1 0|jump 0"), 0, l, 5, 8, limit)
			mustNotKeep(t, readProgram(t, "3 1 0|halt"), 1, l, 5, 8, limit)
		}
	}
	// Also where no path arrives, or all facts before it go.
	for _, text := range []string{"3 1 0|jump 0", "3 1 0|halt", "3 1 0|halt|jump 1"} {
		p := readProgram(t, text)
		for _, bad := range badFacts(3) {
			for _, l := range [][]impl.Fact{{bad}, {good, bad}, {bad, good, good}, {fact(1, 1, 0, 5), bad}, append(repeatedFact(good, 70), bad)} {
				mustNotKeep(t, p, len(p.Code)-1, l, 5, 8, 200)
			}
		}
	}
	// A fact that is none where PathTerm fails for the only path that arrives.
	word := evenWord(236) + "|check r0"
	p := readProgram(t, "2 1 2|"+word+"|halt")
	if got, ok := impl.KeepFacts(p, placesIn(word), []impl.Fact{fact(1, 3, 0, 0)}, 60, 8, 200); !ok || len(got) != 0 {
		t.Errorf("KeepFacts = %s, %v", textOfFacts(got), ok)
	}
	mustNotKeep(t, p, placesIn(word), []impl.Fact{fact(1, 3, 0, 0), fact(1, 3, 1, 0)}, 60, 8, 200)
}

// TestP9KeepFactsOfAny compares with the document's text, and looks again at what stays.
func TestP9KeepFactsOfAny(t *testing.T) {
	m := maker{state: 457}
	looping, heads := loopingPrograms(350)
	looks, failed := map[int]int{}, 0
	for k, p := range slices.Concat(looping, forkingPrograms(60)) {
		pc := m.below(len(p.Code) + 1)
		if k < len(heads) {
			pc = heads[k]
		}
		l := m.facts(p.W, m.below(4))
		// What is true for some steps of a run, of which much goes.
		for _, f := range slowCandidates(p.W, slowVisits(p, m.inputs(p), m.below(20), pc)) {
			if m.below(3) == 0 {
				l = append(l, f)
			}
		}
		fuel, limit := 10+m.below(50), []int{0, 5, 200}[m.below(3)]
		want, asked, fine := slowLoop{p: p, pc: pc, fuel: fuel, most: 20}.keep(l, limit)
		if slices.ContainsFunc(p.Code, func(i impl.Ins) bool { return i.Op == impl.InsCall || i.Op == impl.InsRet }) {
			want, asked, fine = nil, 0, false
		}
		got, ok := impl.KeepFacts(p, pc, l, fuel, 20, limit)
		if ok != fine || !slices.Equal(got, want) {
			t.Errorf("KeepFacts(%s, %d, %s, %d, 20, %d) = %s, %v, want %s, %v", dumpProgram(p), pc, textOfFacts(l), fuel, limit, textOfFacts(got), ok, textOfFacts(want), fine)
		}
		if !ok {
			failed++
			continue
		}
		looks[min(asked, 3)]++
		if again, ok := impl.KeepFacts(p, pc, got, fuel, 20, limit); !ok || !slices.Equal(again, got) {
			t.Errorf("KeepFacts(%s, %d, %s, %d, 20, %d) = %s, %v", dumpProgram(p), pc, textOfFacts(got), fuel, limit, textOfFacts(again), ok)
		}
	}
	if looks[1] < 100 || looks[2] < 25 || looks[3] < 5 || failed < 20 {
		t.Errorf("the numbers of looks at the body are %v, and %d fail", looks, failed)
	}
}

func TestP9InvariantsOf(t *testing.T) {
	all := "r1 is 1, r3 is 0, r0 most 5, r1 most 1, r2 most 5, r3 most 0, r1 bit 0 1, r1 bit 1 0, r1 bit 2 0, r3 bit 0 0, r3 bit 1 0, r3 bit 2 0, r0 sum r2 5, r1 sum r3 1, r3 order r0, r3 order r1, r3 order r2"
	known := "r1 is 1, r3 is 0, r1 most 1, r3 most 0, r1 bit 0 1, r1 bit 1 0, r1 bit 2 0, r3 bit 0 0, r3 bit 1 0, r3 bit 2 0, r1 sum r3 1, r3 order r0, r3 order r1, r3 order r2"
	for _, c := range []struct {
		program  string
		pc, fuel int
		tests    [][]int
		want     string
	}{
		// No tests: there are no states, and so no facts.
		{transfer, 2, 20, nil, ""}, {countdown, 2, 20, nil, ""},
		{transfer, 2, 20, [][]int{nil}, all}, {transfer, 2, 20, [][]int{{}, nil}, all},
		// The visits do not depend on the fuel: with that, r2 would be at most 1.
		{transfer, 2, 4, [][]int{nil}, all},
		// What is true of one test only goes.
		{"3 1 1|in r0|set r1 1|zero r0 6|sub r0 r1|add r2 r1|jump 2|halt", 2, 20, [][]int{{5}}, known}, {"3 1 1|in r0|set r1 1|zero r0 6|sub r0 r1|add r2 r1|jump 2|halt", 2, 20, [][]int{{5}, {2}, {5}}, known},
		// A test that never ends.
		{"2 1 1|in r0|not r1|move r2 r1|jump 1", 3, 20, [][]int{{2}}, "r3 is 0, r1 same r2, r3 most 0, r3 bit 0 0, r3 bit 1 0, r1 order r2, r2 order r1, r3 order r0, r3 order r1, r3 order r2"},
		// A place that is never visited, and one that is visited once.
		{transfer, 7, 40, [][]int{nil}, ""}, {"2 1 1|in r0|set r1 3|halt", 2, 20, [][]int{{0}, {3}}, "r1 is 3, r2 is 0, r3 is 0, r2 same r3, r2 most 0, r3 most 0, r1 bit 0 1, r1 bit 1 1, r2 bit 0 0, r2 bit 1 0, r3 bit 0 0, r3 bit 1 0, r1 sum r2 3, r1 sum r3 3, r2 sum r3 0, r0 order r1, r2 order r0, r2 order r1, r2 order r3, r3 order r0, r3 order r1, r3 order r2"},
	} {
		p := readProgram(t, c.program)
		got, ok := impl.InvariantsOf(p, c.pc, c.tests, c.fuel, 8, 200)
		if !ok || textOfFacts(got) != c.want {
			t.Errorf("InvariantsOf(%q, %d, %v, %d) = %s, %v, want %s", c.program, c.pc, c.tests, c.fuel, textOfFacts(got), ok, c.want)
		}
	}
}

// TestP9InvariantsOfUseAllVisits has a loop whose last visit with other words comes after MaxFuel steps: without this one, r2 would be at most 10.
func TestP9InvariantsOfUseAllVisits(t *testing.T) {
	p := readProgram(t, "4 1 0|set r0 11|set r1 1|set r1 1|set r1 1|zero r0 39|sub r0 r1|add r2 r1"+strings.Repeat("|move r3 r3", 32)+"|jump 4")
	visits := impl.VisitsOf(p, nil, 400, 4)
	if got := textOfState(visits[len(visits)-1]); got != "4|0 1 11 0|0||0||0|400" {
		t.Errorf("the last visit is %s", got)
	}
	got, ok := impl.InvariantsOf(p, 4, [][]int{nil}, 36, 8, 200)
	for _, f := range readFacts(t, 4, "r1 is 1, r0 most 11, r2 most 11, r0 sum r2 11") {
		if !ok || !slices.Contains(got, f) {
			t.Errorf("InvariantsOf = %s, %v", textOfFacts(got), ok)
		}
	}
}

func TestP9InvariantsOfInvalid(t *testing.T) {
	mustFail := func(p impl.Program, pc int, tests [][]int, fuel, most, limit int) {
		t.Helper()
		if got, ok := impl.InvariantsOf(p, pc, tests, fuel, most, limit); ok || len(got) != 0 {
			t.Errorf("InvariantsOf(%.300s, %d, %.300v, %d, %d, %d) = %s, %v", dumpProgram(p), pc, tests, fuel, most, limit, textOfFacts(got), ok)
		}
	}
	for _, tests := range [][][]int{nil, {{}}, {nil, nil}} {
		checkInvalidLoops(t, "InvariantsOf", func(p impl.Program, pc, fuel, most int) bool {
			l, ok := impl.InvariantsOf(p, pc, tests, fuel, most, 200)
			return ok || len(l) != 0
		})
		for _, limit := range badLimits {
			mustFail(readProgram(t, "3 1 0|jump 0"), 0, tests, 5, 8, limit)
		}
		for _, text := range callingTexts[:7] {
			mustFail(readProgram(t, text), 0, tests, 400, 64, 3000)
		}
		mustFail(readProgram(t, "3 1 0|halt|jump 2|jump 2"), 1, tests, 400, 64, 200)
		mustFail(readProgram(t, "3 1 0|jump 0|halt"), 1, tests, 400, 64, 200)
		mustFail(readProgram(t, transfer), 2, tests, 3, 8, 200)
		mustFail(readProgram(t, transfer), 2, tests, 20, 1, 200)
	}
	// One of some tests is none.
	p := readProgram(t, countdown)
	good := []int{5}
	for _, bad := range badLists(3, 1) {
		mustFail(p, 2, [][]int{bad}, 20, 8, 200)
		mustFail(p, 2, [][]int{bad, good}, 20, 8, 200)
		mustFail(p, 2, [][]int{good, bad, good}, 20, 8, 200)
		mustFail(p, 2, [][]int{good, good, bad}, 20, 8, 200)
		// Also where no run comes to the place.
		mustFail(p, 6, [][]int{good, bad}, 20, 8, 200)
	}
	for _, bad := range badPrograms() {
		mustFail(bad, 0, [][]int{make([]int, max(0, min(bad.In, 5)))}, 20, 8, 200)
	}
}

// TestP9InvariantsHoldAtAllVisits has all runs of made programs, and compares with the document's text.
func TestP9InvariantsHoldAtAllVisits(t *testing.T) {
	m := maker{state: 461}
	looping, heads := loopingPrograms(150)
	visits, facts := 0, 0
	for k, p := range looping {
		all := allWords(p)
		tests := [][]int{all[m.below(len(all))], all[m.below(len(all))]}[:m.below(3)]
		want, _, fine := slowLoop{p: p, pc: heads[k], fuel: 40, most: 20}.keep(slowCandidates(p.W, visitsOfAll(p, tests, heads[k])), 60)
		got, ok := impl.InvariantsOf(p, heads[k], tests, 40, 20, 60)
		if ok != fine || !slices.Equal(got, want) {
			t.Errorf("InvariantsOf(%s, %d, %v, 40, 20, 60) = %s, %v, want %s, %v", dumpProgram(p), heads[k], tests, textOfFacts(got), ok, textOfFacts(want), fine)
		}
		facts += len(got)
		for _, in := range all {
			for _, s := range impl.VisitsOf(p, in, 400, heads[k]) {
				visits += min(len(got), 1)
				for _, f := range got {
					if !impl.FactHolds(p, f, s.Regs) {
						t.Fatalf("%s is no invariant of %s at %d: %s", textOfFact(f), dumpProgram(p), heads[k], textOfState(s))
					}
				}
			}
		}
	}
	if visits < 3000 || facts < 1000 {
		t.Errorf("there are %d facts and %d visits", facts, visits)
	}
}

func TestP9SafeChecks(t *testing.T) {
	inside := "3 1 1|in r0|set r1 1|zero r0 6|check r1|sub r0 r1|jump 2|halt"
	behind := "3 1 1|in r0|set r1 1|zero r0 5|sub r0 r1|jump 2|check r1|halt"
	before := "3 1 1|in r0|set r1 1|check r0|zero r0 6|sub r0 r1|jump 3|halt"
	hard := "3 1 2|in r0|in r1|and r1 r0|less r0 r1|set r2 1|xor r0 r2|check r0|halt"
	for _, c := range []struct {
		program string
		pc      int
		facts   string
		limit   int
		want    bool
	}{
		// Without any check, or with one that never fails.
		{countdown, 2, "", 0, true}, {countdown, 2, "r1 is 1", 200, true}, {"3 1 0|set r1 1|check r1|jump 2", 2, "", 0, true}, {"3 1 0|jump 0|check r0", 0, "", 0, true},
		// It fails in the entry: for one input, or for all.
		{before, 3, "", 200, false}, {before, 3, "r1 is 1", 200, false}, {"3 1 0|check r0|jump 1", 1, "", 200, false}, {"3 1 0|zero r1 2|halt|check r0|halt", 3, "r0 is 0", 200, false}, {"3 1 1|in r0|check r0|halt", 2, "", 0, false},
		// In the body only without the facts.
		{inside, 2, "", 200, false}, {inside, 2, "r1 is 1", 200, true}, {inside, 2, "r1 bit 0 1", 200, true}, {inside, 2, "r1 bit 0 1, r1 most 5, r2 is 0", 200, true}, {inside, 2, "r2 is 0, r2 same r3", 200, false}, {behind, 2, "", 200, false}, {behind, 2, "r1 is 1", 200, true}, {behind, 2, "r1 most 3", 200, false}, {inside, 2, "r1 most 3", 200, false},
		// The check is asked for the place, not for the start: no run comes there with 0.
		{inside, 3, "", 200, false}, {inside, 3, "r1 is 1", 200, true}, {"3 1 0|set r1 1|jump 2|check r1|halt", 2, "", 200, false}, {"3 1 0|set r1 1|jump 2|check r1|halt", 2, "r1 is 1", 200, true}, {"3 1 0|set r1 1|jump 2|check r1|halt", 3, "", 200, true}, {"3 1 0|set r1 1|jump 2|check r1|halt", 4, "", 200, true},
		// It fails in the body for an input.
		{"3 1 0|jump 1|in r0|check r0|jump 1", 1, "", 200, false}, {"3 1 0|jump 1|in r0|check r0|jump 1", 1, "r1 is 0, r2 is 0", 200, false}, {"3 1 0|jump 1|in r0|zero r0 4|check r0|jump 1", 1, "", 200, true},
		// Facts that are not kept, also where the check never fails.
		{inside, 2, "r1 is 1, r0 is 0", 200, false}, {inside, 2, "r0 is 0, r1 is 1", 200, false}, {countdown, 2, "r2 is 1", 200, false}, {countdown, 2, "r0 most 6", 200, false}, {chain, 2, "r3 is 0", 200, false}, {chain, 2, "r1 is 1, r1 is 1", 200, true}, {chain, 2, "r1 is 1, r2 is 0, r1 is 1", 200, false},
		// A place that is never reached: what is asked for holds for none, or the facts contradict each other.
		{"3 1 0|halt|check r0|jump 1", 1, "", 200, false}, {"3 1 0|halt|check r0|jump 1", 1, "r0 is 1", 200, true}, {"3 1 0|halt|check r0|jump 1", 1, "r0 is 0, r0 is 1", 200, true}, {"3 1 0|halt|check r0|jump 1", 1, "r0 is 0", 200, false}, {"3 1 0|check r0|halt|jump 2", 2, "", 200, false},
		// Too few splits for the check, or for the facts.
		{hard, 7, "", 0, false}, {hard, 7, "", 200, true}, {hard, 0, "r0 is 0, r1 is 0", 0, false}, {hard, 0, "r0 is 0, r1 is 0", 200, true}, {transfer, 2, "r1 is 1, r0 sum r2 5", 0, false}, {transfer, 2, "r1 is 1, r0 sum r2 5", 200, true}, {inside, 2, "r1 is 1", 0, true},
	} {
		p := readProgram(t, c.program)
		for _, fuel := range []int{20, 400} {
			if got := impl.SafeChecks(p, c.pc, readFacts(t, 3, c.facts), fuel, 19, c.limit); got != c.want {
				t.Errorf("SafeChecks(%q, %d, %s, %d, 19, %d) = %v", c.program, c.pc, c.facts, fuel, c.limit, got)
			}
		}
	}
}

// TestP9SafeChecksOfBigTerms has a check that never fails, for which there is room, but for 235 nodes not for PathTerm of its condition.
func TestP9SafeChecksOfBigTerms(t *testing.T) {
	for n := 226; n <= 239; n++ {
		word := evenWord(n) + "|set r2 1|or r2 r0|check r2"
		p := readProgram(t, "2 1 2|"+word+"|halt")
		if _, ok := impl.EntryPaths(p, placesIn(word), 60, 8); ok != (n <= 235) {
			t.Errorf("EntryPaths with %d nodes = %v", n, ok)
		}
		if got := impl.SafeChecks(p, placesIn(word), nil, 60, 8, 200); got != (n <= 234) {
			t.Errorf("SafeChecks with %d nodes = %v", n, got)
		}
	}
}

func TestP9SafeChecksInvalid(t *testing.T) {
	none := []impl.Fact{}
	good := []impl.Fact{fact(1, 1, 0, 0)}
	for _, l := range [][]impl.Fact{none, good} {
		checkInvalidLoops(t, "SafeChecks", func(p impl.Program, pc, fuel, most int) bool { return impl.SafeChecks(p, pc, l, fuel, most, 200) })
		for _, limit := range badLimits {
			if impl.SafeChecks(readProgram(t, "3 1 0|jump 0"), 0, l, 5, 8, limit) {
				t.Errorf("SafeChecks with %d splits = true", limit)
			}
		}
		for _, text := range callingTexts {
			if impl.SafeChecks(readProgram(t, text), 0, l, 400, 64, 200) {
				t.Errorf("SafeChecks of %q = true", text)
			}
		}
		for _, text := range []string{"3 1 0|halt|jump 2|jump 2", "3 1 0|jump 0|halt"} {
			if impl.SafeChecks(readProgram(t, text), 1, l, 400, 64, 200) {
				t.Errorf("SafeChecks of %q = true", text)
			}
		}
	}
	for _, text := range []string{"3 1 0|jump 0", "3 1 0|halt|jump 1"} {
		p := readProgram(t, text)
		for _, bad := range badFacts(3) {
			for _, l := range [][]impl.Fact{{bad}, {good[0], bad}, {bad, good[0]}} {
				if impl.SafeChecks(p, len(p.Code)-1, l, 5, 8, 200) {
					t.Errorf("SafeChecks of %q and %v = true", text, l)
				}
			}
		}
	}
}

// TestP9NoRunOfASafeProgramFailsACheck has all runs of made programs, and compares with the document's text.
func TestP9NoRunOfASafeProgramFailsACheck(t *testing.T) {
	m := maker{state: 463}
	looping, heads := loopingPrograms(220)
	safe, unsafe := 0, 0
	for k, p := range looping {
		if !slices.ContainsFunc(p.Code, func(i impl.Ins) bool { return i.Op == impl.InsCheck }) {
			continue
		}
		limit := []int{0, 20, 200}[m.below(3)]
		l, _ := impl.InvariantsOf(p, heads[k], [][]int{m.inputs(p)}, 40, 20, limit)
		l = l[:min(len(l), m.below(40))]
		got := impl.SafeChecks(p, heads[k], l, 40, 20, limit)
		if want := (slowLoop{p: p, pc: heads[k], fuel: 40, most: 20}).safe(l, limit); got != want {
			t.Errorf("SafeChecks(%s, %d, %s, 40, 20, %d) = %v", dumpProgram(p), heads[k], textOfFacts(l), limit, got)
		}
		if !got {
			unsafe++
			continue
		}
		safe++
		for _, in := range allWords(p) {
			if s := impl.RunProgram(p, in, 400); s.Code == impl.CodeCheck {
				t.Errorf("the run of the safe program %s for %v ends with %s", dumpProgram(p), in, textOfState(s))
			}
		}
	}
	if safe < 20 || unsafe < 40 {
		t.Errorf("%d programs are safe, and %d are not", safe, unsafe)
	}
}
