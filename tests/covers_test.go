package tests

import (
	"slices"
	"strings"
	"testing"

	"loop.example/g03219/impl"
)

const (
	// descent asks at the place 2 whether the input is 0, then 1, and so on.
	descent = "3 1 1|in r0|set r1 1|zero r0 5|sub r0 r1|jump 2|halt"
	// bits asks for each of the four bits of the input, at the places 3, 6, 9 and 12.
	bits = "4 1 1|in r0|set r1 1|and r1 r0|zero r1 4|set r1 2|and r1 r0|zero r1 7|set r1 4|and r1 r0|zero r1 10|set r1 8|and r1 r0|zero r1 13|halt"
	// levels10 asks at ten places, at each for one input alone whether it is 0 there.
	levels10 = "4 1 1|in r0|set r1 1|zero r0 22|sub r0 r1|zero r0 22|sub r0 r1|zero r0 22|sub r0 r1|zero r0 22|sub r0 r1|zero r0 22|sub r0 r1" +
		"|zero r0 22|sub r0 r1|zero r0 22|sub r0 r1|zero r0 22|sub r0 r1|zero r0 22|sub r0 r1|zero r0 22|halt"
)

func TestP9BranchesOf(t *testing.T) {
	for _, c := range []struct{ program, want string }{
		{"2 1 0|halt", ""}, {"2 1 0|jump 1|not r0", ""}, {"2 1 0|zero r0 0", "0"}, {"2 1 0|zero r3 1", "0"}, {"3 2 1|in r0|zero r0 3|not r0|zero r1 4", "1 3"}, {"2 1 0|not r0|halt|zero r0 0", "2"},
		{sumProgram, "3"}, {"2 1 0|zero r3 1|zero r0 4|zero r1 0|jump 0", "0 1 2"}, {"2 1 0|check r0|load r0 r1|div r0 r1|call 0", ""}, {bits, "3 6 9 12"}, {levels10, "2 4 6 8 10 12 14 16 18 20"},
	} {
		if got := textOfInts(impl.BranchesOf(readProgram(t, c.program))); got != c.want {
			t.Errorf("BranchesOf(%q) = %s, want %s", c.program, got, c.want)
		}
	}
	all := impl.Program{W: 2, Mem: 1, Code: slices.Repeat([]impl.Ins{ins(impl.InsZero, 0, 40, 0)}, 40)}
	if got := impl.BranchesOf(all); len(got) != 40 || got[0] != 0 || got[39] != 39 {
		t.Errorf("BranchesOf of 40 instructions = %v", got)
	}
	for _, p := range slices.Concat(somePrograms(300), forkingPrograms(300)) {
		if got := impl.BranchesOf(p); !slices.Equal(got, slowBranches(p)) {
			t.Errorf("BranchesOf(%s) = %v", dumpProgram(p), got)
		}
	}
	for _, bad := range badPrograms() {
		if got := impl.BranchesOf(bad); len(got) != 0 {
			t.Errorf("BranchesOf(%.300s) = %v", dumpProgram(bad), got)
		}
	}
}

func TestP9CoverOf(t *testing.T) {
	const (
		both  = "3 1 0|set r1 1|set r0 2|zero r0 5|sub r0 r1|jump 2|halt"
		three = "3 1 3|in r1|in r2|in r3|zero r1 4|zero r2 5|zero r3 6"
		late  = "|set r1 1|sub r0 r1|zero r0 5|jump 2|halt"
	)
	for _, c := range []struct {
		program string
		in      []int
		fuel    int
		want    string
	}{
		{sumProgram, []int{5}, 20, "7"}, {sumProgram, []int{4}, 20, "6"}, {sumProgram, []int{0}, 400, "6"},
		// The fuel ends just before an InsZero, and just behind it.
		{sumProgram, []int{5}, 0, ""}, {sumProgram, []int{5}, 1, ""}, {sumProgram, []int{5}, 3, ""}, {sumProgram, []int{5}, 4, "7"}, {sumProgram, []int{4}, 3, ""}, {sumProgram, []int{4}, 4, "6"}, {"2 1 0|zero r0 1", nil, 0, ""}, {"2 1 0|zero r0 1", nil, 1, "1"}, {"2 1 0|zero r0 1", nil, 2, "1"}, {"2 1 0|zero r0 1", nil, 400, "1"},
		// Both edges of one place.
		{both, nil, 400, "4 5"}, {both, nil, 2, ""}, {both, nil, 3, "4"}, {both, nil, 8, "4"}, {both, nil, 9, "4 5"}, {both, nil, 10, "4 5"}, {"3 1 0|zero r0 1|not r0|jump 0", nil, 1, "1"}, {"3 1 0|zero r0 1|not r0|jump 0", nil, 3, "1"}, {"3 1 0|zero r0 1|not r0|jump 0", nil, 4, "0 1"},
		{descent, []int{0}, 400, "5"}, {descent, []int{1}, 400, "4 5"}, {descent, []int{7}, 400, "4 5"}, {descent, []int{7}, 20, "4"},
		// B is the place behind it, its own place, or one before it.
		{"3 1 1|in r0|zero r0 2", []int{0}, 9, "3"}, {"3 1 1|in r0|zero r0 2", []int{1}, 9, "2"}, {"3 1 1|in r0|zero r0 2", []int{7}, 9, "2"}, {"3 1 1|in r0|zero r0 1", []int{0}, 9, "3"}, {"3 1 1|in r0|zero r0 1", []int{6}, 9, "2"}, {"3 1 1|in r0|zero r0 0", []int{0}, 9, "3"}, {"3 1 1|in r0|zero r0 0", []int{6}, 9, "2"},
		{three, []int{0, 1, 2}, 9, "7 8 10"}, {three, []int{1, 0, 0}, 9, "6 9 11"}, {three, []int{0, 0, 0}, 5, "7 9"}, {three, []int{3, 3, 3}, 400, "6 8 10"}, {bits, []int{5}, 400, "6 13 18 25"}, {bits, []int{10}, 400, "7 12 19 24"},
		// In a function that is called twice.
		{"3 1 0|call 3|not r0|call 3|zero r0 4|ret", nil, 2, "7"}, {"3 1 0|call 3|not r0|call 3|zero r0 4|ret", nil, 5, "7"}, {"3 1 0|call 3|not r0|call 3|zero r0 4|ret", nil, 6, "6 7"}, {"3 1 0|call 3|not r0|call 3|zero r0 4|ret", nil, 400, "6 7"},
		// The run does not come there, or ends before.
		{"3 1 0|halt|zero r0 0", nil, 9, ""}, {"3 1 0|check r0|zero r0 0", nil, 9, ""}, {"3 1 0|in r0|zero r0 0", nil, 9, ""}, {"3 1 0|jump 2|zero r0 0|not r0", nil, 9, ""}, {"3 1 0|not r0|halt", nil, 9, ""}, {"3 1 0|zero r0 2|zero r0 0|halt", nil, 9, "1"},
		// The last step that there may be.
		{"8 1 0|set r0 133" + late, nil, 400, "6 7"}, {"8 1 0|set r0 133" + late, nil, 399, "6"}, {"8 1 0|set r0 134" + late, nil, 400, "6"},
	} {
		p := readProgram(t, c.program)
		if got := textOfInts(impl.CoverOf(p, c.in, c.fuel)); got != c.want {
			t.Errorf("CoverOf(%q, %v, %d) = %s, want %s", c.program, c.in, c.fuel, got, c.want)
		}
		if got := textOfInts(impl.CoverAll(p, [][]int{c.in}, c.fuel)); got != c.want {
			t.Errorf("CoverAll(%q, %v, %d) = %s, want %s", c.program, c.in, c.fuel, got, c.want)
		}
	}
}

func TestP9CoverAll(t *testing.T) {
	for _, c := range []struct {
		program, tests string
		fuel           int
		want           string
	}{
		{sumProgram, "", 20, ""}, {sumProgram, "4", 20, "6"}, {sumProgram, "4, 5", 20, "6 7"}, {sumProgram, "5, 4", 20, "6 7"}, {sumProgram, "5, 5, 5", 20, "7"}, {sumProgram, "5, 4", 4, "6 7"}, {sumProgram, "5, 4", 3, ""}, {sumProgram, "5, 4", 0, ""},
		{bits, "5, 10", 400, "6 7 12 13 18 19 24 25"}, {bits, "1, 3, 7", 400, "6 12 13 18 19 25"}, {bits, "1, 3, 7", 7, "6 12 13"}, {"2 1 1|in r0|halt", "0, 1, 2", 9, ""}, {levels10, "3, 0, 11", 400, "4 5 8 12 16 17 20 24 28 32 36 40"}, {levels10, "3, 1", 400, "4 8 9 12 17"},
	} {
		if got := textOfInts(impl.CoverAll(readProgram(t, c.program), readTests(t, c.tests), c.fuel)); got != c.want {
			t.Errorf("CoverAll(%q, %s, %d) = %s, want %s", c.program, c.tests, c.fuel, got, c.want)
		}
	}
}

func TestP9SmallestSuite(t *testing.T) {
	ten := "0, 1, 2, 3, 4, 5, 6, 7, 8, 9"
	for _, c := range []struct {
		program, tests string
		fuel           int
		want           string
	}{
		{sumProgram, "4, 0, 5", 20, "0 2"}, {sumProgram, "5, 0, 4", 20, "0 1"},
		// One is enough.
		{sumProgram, "5", 20, "0"}, {sumProgram, "4, 0, 1", 20, "0"}, {descent, "0, 0, 3, 1", 400, "2"}, {descent, "2, 0", 400, "0"}, {descent, "0, 7", 20, "0 1"}, {bits, "3, 5, 7, 15, 3, 5", 4, "0"},
		// Of several of the same size, the first one lexicographically.
		{bits, "5, 3, 12, 10", 400, "0 3"}, {bits, "3, 5, 10, 12", 400, "0 3"}, {bits, "1, 5, 3, 12, 10", 400, "1 4"}, {bits, "3, 12, 5, 10", 400, "0 1"}, {bits, "5, 0, 10, 15", 400, "0 2"}, {bits, "1, 2, 4, 8, 15", 400, "0 1 4"}, {bits, "15, 1, 2, 4, 8", 400, "0 1 2"}, {bits, "1, 2, 4, 8, 14", 400, "0 4"},
		// One that takes many edges is not needed.
		{bits, "7, 11, 4, 3, 12", 400, "1 2"}, {bits, "14, 1, 15, 0", 400, "0 1"}, {bits, "14, 15, 0, 2", 400, "1 2"},
		// No edge is taken.
		{"2 1 1|in r0|halt", "0, 1", 400, ""}, {sumProgram, "4, 5", 3, ""}, {sumProgram, "4, 5", 0, ""}, {"2 1 1|in r0|halt|zero r0 0", ten[:7], 400, ""}, {sumProgram, "", 20, ""},
		// The same test twice.
		{sumProgram, "4, 4", 20, "0"}, {sumProgram, "5, 4, 4, 5", 20, "0 1"}, {sumProgram, "4, 4, 5, 5", 20, "0 2"}, {sumProgram, "4, 4, 4, 4, 4, 4, 4, 4, 4, 5", 20, "0 9"}, {levels10, "3, 3, 3, 3, 3, 3, 3, 3, 3, 3", 400, "0"},
		// Ten tests, all of which are needed, or some; eleven are too many.
		{levels10, ten, 400, "0 1 2 3 4 5 6 7 8 9"}, {levels10, "9, 8, 7, 6, 5, 4, 3, 2, 1, 0", 400, "0 1 2 3 4 5 6 7 8 9"}, {levels10, "0, 1, 2, 3, 4, 5, 6, 7, 8, 8", 400, "0 1 2 3 4 5 6 7 8"}, {levels10, "11, 1, 2, 3, 4, 5, 6, 7, 8, 9", 400, "0 1 2 3 4 5 6 7 8 9"}, {levels10, "9, 11, 2, 3, 4, 5, 6, 7, 8, 10", 400, "0 1 2 3 4 5 6 7 8"}, {levels10, ten, 7, "0 1 2 3"},
		{levels10, ten + ", 0", 400, ""}, {levels10, ten + ", 11", 400, ""}, {sumProgram, "4, 4, 4, 4, 4, 4, 4, 4, 4, 4, 5", 20, ""}, {sumProgram, "4, 4, 4, 4, 4, 4, 4, 4, 4, 4, 4, 4, 5", 20, ""},
	} {
		if got := textOfInts(impl.SmallestSuite(readProgram(t, c.program), readTests(t, c.tests), c.fuel)); got != c.want {
			t.Errorf("SmallestSuite(%q, %s, %d) = %s, want %s", c.program, c.tests, c.fuel, got, c.want)
		}
	}
}

// TestP9CoversOfAny compares with the document's text.
func TestP9CoversOfAny(t *testing.T) {
	m := maker{state: 503}
	looping, _ := loopingPrograms(500)
	sizes := map[int]int{}
	edges := 0
	for _, p := range slices.Concat(forkingPrograms(1000), looping, somePrograms(100)) {
		fuel := m.below(60)
		tests := m.tests(p, m.below(11))
		for _, in := range tests {
			got := impl.CoverOf(p, in, fuel)
			edges += len(got)
			if want := slowCover(p, [][]int{in}, fuel); !slices.Equal(got, want) {
				t.Errorf("CoverOf(%s, %v, %d) = %v, want %v", dumpProgram(p), in, fuel, got, want)
			}
		}
		if got, want := impl.CoverAll(p, tests, fuel), slowCover(p, tests, fuel); !slices.Equal(got, want) {
			t.Errorf("CoverAll(%s, %v, %d) = %v, want %v", dumpProgram(p), tests, fuel, got, want)
		}
		got := impl.SmallestSuite(p, tests, fuel)
		sizes[len(got)]++
		if want := slowSuite(p, tests, fuel); !slices.Equal(got, want) {
			t.Errorf("SmallestSuite(%s, %v, %d) = %v, want %v", dumpProgram(p), tests, fuel, got, want)
		}
	}
	if edges < 5000 || sizes[1] < 400 || sizes[2] < 100 || sizes[3] < 10 {
		t.Errorf("%d edges, and %v suites by their sizes", edges, sizes)
	}
}

// TestP9SuitesOfSets has programs that ask for bits of their inputs, so that tests are sets of edges of all kinds.
func TestP9SuitesOfSets(t *testing.T) {
	m := maker{state: 509}
	p := readProgram(t, strings.Replace(bits, "4 1 1", "8 1 1", 1))
	sizes := map[int]int{}
	for n := range 400 {
		var tests [][]int
		for range n % 11 {
			// Some bits are never asked for, so that tests with other inputs take the same edges.
			word := m.below(256)
			if n%3 == 0 {
				word &= m.below(256)
			}
			tests = append(tests, []int{word})
		}
		got := impl.SmallestSuite(p, tests, 400)
		sizes[len(got)]++
		if want := slowSuite(p, tests, 400); !slices.Equal(got, want) {
			t.Errorf("SmallestSuite of %s = %v, want %v", testsText(tests), got, want)
		}
		mustBeNeeded(t, p, tests, got)
	}
	if sizes[2] < 50 || sizes[3] < 50 {
		t.Errorf("the sizes are %v", sizes)
	}
}

// mustBeNeeded fails the test if a suite does not take all edges of some tests, or does so without one of its tests.
func mustBeNeeded(t *testing.T, p impl.Program, tests [][]int, suite []int) {
	t.Helper()
	coverWithout := func(out int) []int {
		var chosen [][]int
		for _, k := range suite {
			if k != out {
				chosen = append(chosen, tests[k])
			}
		}
		return slowCover(p, chosen, 400)
	}
	all := slowCover(p, tests, 400)
	if !slices.Equal(coverWithout(-1), all) {
		t.Errorf("the suite %v of %s does not take all edges", suite, testsText(tests))
	}
	for _, k := range suite {
		if slices.Equal(coverWithout(k), all) {
			t.Errorf("the suite %v of %s does not need %d", suite, testsText(tests), k)
		}
	}
}

func TestP9CoversInvalid(t *testing.T) {
	mustBeNone := func(p impl.Program, tests [][]int, fuel int) {
		t.Helper()
		if got := impl.CoverAll(p, tests, fuel); len(got) != 0 {
			t.Errorf("CoverAll(%.300s, %.100s, %d) = %v", dumpProgram(p), testsText(tests), fuel, got)
		}
		if got := impl.SmallestSuite(p, tests, fuel); len(got) != 0 {
			t.Errorf("SmallestSuite(%.300s, %.100s, %d) = %v", dumpProgram(p), testsText(tests), fuel, got)
		}
	}
	for _, text := range []string{sumProgram, "2 1 2|in r0|zero r0 3|in r1|zero r1 0", "2 1 0|zero r0 1"} {
		p := readProgram(t, text)
		good := make([]int, p.In)
		if got := impl.SmallestSuite(p, [][]int{good}, 20); len(got) != 1 {
			t.Errorf("SmallestSuite of %q = %v", text, got)
		}
		for _, tests := range badTests(p) {
			mustBeNone(p, tests, 20)
		}
		for _, in := range badLists(p.W, p.In) {
			if got := impl.CoverOf(p, in, 20); len(got) != 0 {
				t.Errorf("CoverOf(%q, %.100s) = %v", text, textOfInts(in), got)
			}
		}
		for _, fuel := range badFuels {
			mustBeNone(p, [][]int{good}, fuel)
			mustBeNone(p, [][]int{good, good}, fuel)
			if got := impl.CoverOf(p, good, fuel); len(got) != 0 {
				t.Errorf("CoverOf(%q, %v, %d) = %v", text, good, fuel, got)
			}
		}
	}
	for _, bad := range badPrograms() {
		for n := range 3 {
			mustBeNone(bad, [][]int{make([]int, n)}, 20)
			if got := impl.CoverOf(bad, make([]int, n), 20); len(got) != 0 {
				t.Errorf("CoverOf(%.300s, %d) = %v", dumpProgram(bad), n, got)
			}
		}
		mustBeNone(bad, nil, 20)
	}
}
