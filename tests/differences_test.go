package tests

import (
	"math"
	"slices"
	"testing"

	"loop.example/g03219/impl"
)

const (
	echo3 = "3 1 1|in r0|out r0|halt"
	// different5 is like echo3 but for the input 5.
	different5 = "3 1 1|in r0|set r1 5|eq r1 r0|zero r1 5|not r0|out r0|halt"
	// second gives the second of two inputs.
	second = "3 1 2|in r0|in r1|out r1|halt"
)

func TestP9Differ(t *testing.T) {
	for _, c := range []struct {
		p, q  string
		limit int
		code  int
		want  string
	}{
		// A program and itself.
		{sumProgram, sumProgram, 100, impl.SatNo, ""}, {echo3, echo3, 0, impl.SatNo, ""}, {different5, different5, 100, impl.SatNo, ""}, {second, second, 0, impl.SatNo, ""}, {orderProgram, orderProgram, 100, impl.SatNo, ""},
		// They are written in other ways, but do the same.
		{echo3, "3 1 1|in r2|not r2|not r2|jump 4|out r2|halt", 100, impl.SatNo, ""}, {echo3, "3 6 1|in r0|store r1 r0|load r3 r1|out r3|halt", 100, impl.SatNo, ""}, {"3 1 1|in r0|add r0 r0|out r0|halt", "3 1 1|in r0|set r1 1|shl r0 r1|out r0|halt", 100, impl.SatNo, ""}, {echo3, "3 1 1|in r0|zero r0 3|set r3 1|out r0|halt", 100, impl.SatNo, ""},
		{echo3, "3 1 1|in r0|zero r0 4|out r0|halt|set r0 0|out r0|halt", 100, impl.SatNo, ""},
		// One test alone.
		{echo3, different5, 100, impl.SatYes, "5"}, {sumProgram, "3 2 1|in r0|set r1 3|add r0 r1|zero r0 4|out r0|halt", 100, impl.SatYes, "5"}, {second, "3 1 2|in r0|in r1|set r2 7|eq r2 r0|zero r2 9|set r2 6|eq r2 r1|zero r2 9|not r1|out r1|halt", 100, impl.SatYes, "7 6"},
		// The first one lexicographically, also where it is not that of the first pair of ends.
		{second, "3 1 2|in r0|in r1|less r0 r1|out r0|halt", 100, impl.SatYes, "0 2"}, {second, "3 1 2|in r0|in r1|less r1 r0|out r1|halt", 100, impl.SatYes, "0 1"}, {second, "3 1 2|in r0|in r1|less r1 r0|zero r1 6|halt|set r1 0|out r1|halt", 100, impl.SatYes, "0 1"},
		{second, "3 1 2|in r0|in r1|zero r1 6|not r1|out r1|halt|set r2 6|eq r2 r0|out r2|halt", 100, impl.SatYes, "0 1"}, {second, "3 1 2|in r0|in r1|zero r1 5|out r1|halt|set r2 6|eq r2 r0|out r2|halt", 100, impl.SatYes, "6 0"}, {second, "3 1 2|in r0|in r1|zero r1 4|out r0|out r1|halt", 100, impl.SatYes, "0 1"},
		{sumProgram, "3 2 1|in r0|set r1 4|add r0 r1|zero r0 6|out r0|halt|check r0", 100, impl.SatYes, "0"}, {sumProgram, "3 2 1|in r0|set r1 3|add r0 r1|zero r0 6|out r0|halt|check r1", 100, impl.SatYes, "5"},
		// An input is not looked at, or not even read.
		{"3 1 3|in r0|in r1|in r2|out r1|halt", "3 1 3|in r0|in r1|in r2|set r3 4|less r3 r1|zero r3 7|not r1|out r1|halt", 100, impl.SatYes, "0 5 0"}, {"3 1 3|in r0|out r0|halt", "3 1 3|in r0|set r1 5|eq r1 r0|zero r1 5|not r0|out r0|halt", 100, impl.SatYes, "5 0 0"}, {"3 1 3|halt", "3 1 3|jump 1", 0, impl.SatYes, "0 0 0"}, {"3 1 2|in r0|out r0", "3 1 2|in r0|in r1|out r1", 100, impl.SatYes, "0 1"},
		// Outputs differ in number.
		{echo3, "3 1 1|in r0|set r1 3|sub r1 r0|zero r1 6|out r0|halt|out r0|out r0|halt", 100, impl.SatYes, "3"}, {echo3, "3 1 1|in r0|halt", 0, impl.SatYes, "0"}, {"3 1 0|out r0|halt", "3 1 0|out r0|out r0|halt", 0, impl.SatYes, ""},
		// Codes differ.
		{echo3, "3 1 1|in r0|out r0", 0, impl.SatYes, "0"}, {echo3, "3 1 1|in r0|out r0|in r1", 0, impl.SatYes, "0"}, {echo3, "3 1 1|in r0|out r0|check r0|halt", 100, impl.SatYes, "0"}, {echo3, "3 1 1|in r0|out r0|set r1 6|sub r1 r0|div r2 r1|halt", 100, impl.SatYes, "6"}, {"3 1 1|in r0|load r1 r0|halt", "3 4 1|in r0|load r1 r0|halt", 100, impl.SatYes, "1"}, {"3 2 1|in r0|load r1 r0|halt", "3 6 1|in r0|load r1 r0|halt", 100, impl.SatYes, "2"}, {"3 1 0|ret", "3 1 0|halt", 0, impl.SatYes, ""},
		// The second output, or the last one.
		{"3 1 1|in r0|out r1|out r0|out r2|halt", "3 1 1|in r0|out r1|out r0|out r0|halt", 100, impl.SatYes, "1"}, {"3 1 1|in r0|out r1|out r0|out r2|halt", "3 1 1|in r0|out r1|out r1|out r2|halt", 100, impl.SatYes, "1"}, {"3 1 1|in r0|out r1|out r0|out r2|halt", "3 1 1|in r0|out r0|out r1|out r2|halt", 100, impl.SatYes, "1"},
		// Without inputs.
		{"3 1 0|set r0 3|out r0|halt", "3 1 0|set r0 4|out r0|halt", 0, impl.SatYes, ""}, {"3 1 0|set r0 3|out r0|halt", "3 1 0|set r0 4|not r0|out r0|halt", 0, impl.SatNo, ""},
		// The limit is too small for some pair of ends, for which there may be a test or not.
		{sumProgram, sumProgram, 0, impl.SatNo, ""}, {echo3, "3 1 1|in r0|set r1 1|or r0 r1|out r0|halt", 0, impl.SatOpen, ""}, {second, "3 1 2|in r0|in r1|less r0 r1|out r0|halt", 0, impl.SatOpen, ""},
		{"3 1 1|in r0|zero r0 3|halt|halt", "3 1 1|in r0|halt", 0, impl.SatNo, ""}, {"3 1 1|in r0|zero r0 3|not r0|halt", "3 1 1|in r0|check r3", 0, impl.SatOpen, ""}, {"3 1 1|in r0|zero r0 3|not r0|halt", "3 1 1|in r0|check r3", 3, impl.SatYes, "0"}, {"3 1 1|in r0|set r1 3|eq r0 r1|zero r0 5|not r0|halt", "3 1 1|in r0|check r3", 0, impl.SatOpen, ""}, {"3 1 1|in r0|set r1 3|eq r0 r1|zero r0 5|not r0|halt", "3 1 1|in r0|check r3", 3, impl.SatYes, "0"},
	} {
		mustDiffer(t, c.p, c.q, 20, 8, c.limit, c.code, c.want)
		mustDiffer(t, c.q, c.p, 20, 8, c.limit, c.code, c.want)
	}
}

func mustDiffer(t *testing.T, first, other string, fuel, most, limit, code int, want string) {
	t.Helper()
	got, in := impl.Differ(readProgram(t, first), readProgram(t, other), fuel, most, limit)
	if got != code || textOfInts(in) != want {
		t.Errorf("Differ(%q, %q, %d, %d, %d) = %d, %v, want %d, %s", first, other, fuel, most, limit, got, in, code, want)
	}
}

// TestP9DifferOpen has programs that cannot be explored to their ends.
func TestP9DifferOpen(t *testing.T) {
	halts := "3 2 1|halt"
	big := "2 1 2|" + evenWord(239) + "|mul r0 r0|halt"
	for _, c := range []struct {
		p, q             string
		fuel, most, code int
	}{
		{sumProgram, halts, 6, 3, impl.SatYes}, {sumProgram, sumProgram, 6, 3, impl.SatNo}, {halts, halts, 1, 1, impl.SatNo}, {halts, "3 2 1|jump 1", 2, 1, impl.SatYes},
		// Too little fuel, or too few ends, for one of them or for both.
		{sumProgram, halts, 5, 3, impl.SatOpen}, {sumProgram, sumProgram, 5, 3, impl.SatOpen}, {sumProgram, halts, 6, 2, impl.SatOpen}, {sumProgram, sumProgram, 6, 2, impl.SatOpen}, {halts, halts, 0, 1, impl.SatOpen}, {halts, "3 2 1|jump 1", 1, 1, impl.SatOpen}, {halts, "3 2 1|not r0|halt", 1, 1, impl.SatOpen},
		{halts, "3 2 1|jump 0", 400, 64, impl.SatOpen}, {"3 2 1|jump 0", "3 2 1|jump 0", 400, 64, impl.SatOpen}, {halts, "3 2 1|in r0|zero r0 2|jump 2", 400, 64, impl.SatOpen}, {halts, "3 2 1|in r0|zero r0 4|jump 3|jump 3|halt", 400, 64, impl.SatOpen},
		// A term is too big.
		{big, "2 1 2|halt", 60, 64, impl.SatOpen}, {big, big, 60, 64, impl.SatOpen},
		// 64 ends and not more.
		{sameProgram, "2 1 1|halt", 20, 64, impl.SatYes}, {sameProgram, "2 1 1|halt", 20, 63, impl.SatOpen}, {sameProgram, sameProgram, 20, 64, impl.SatNo}, {sameProgram + "|zero r0 8", "2 1 1|halt", 20, 64, impl.SatOpen},
	} {
		for _, l := range [][2]string{{c.p, c.q}, {c.q, c.p}} {
			code, in := impl.Differ(readProgram(t, l[0]), readProgram(t, l[1]), c.fuel, c.most, 100)
			if code != c.code || code != impl.SatYes && len(in) != 0 {
				t.Errorf("Differ(%.200q, %.200q, %d, %d) = %d, %v, want %d", l[0], l[1], c.fuel, c.most, code, in, c.code)
			}
		}
	}
}

// TestP9DifferOfBigTerms has words in conditions and in outputs for which there is just enough room, or not.
func TestP9DifferOfBigTerms(t *testing.T) {
	for n := 226; n <= 239; n++ {
		word := evenWord(n)
		for _, c := range []struct {
			behind, other string
			room, code    int
			in            string
		}{
			// AllOf of PathTerm, which has three nodes more than the word, and of constants.
			{"|zero r0 " + textOfInts([]int{placesIn(word) + 1}) + "|halt", "halt", 235, impl.SatNo, ""},
			// OpOr of 0 and OpNot of OpEq of both outputs.
			{"|out r0|halt", "set r0 1|out r0|halt", 235, impl.SatYes, "0 0"}, {"|out r3|out r0|halt", "out r0|set r0 1|out r0|halt", 235, impl.SatYes, "0 0"},
			// The numbers of outputs differ.
			{"|out r0|halt", "halt", 239, impl.SatYes, "0 0"},
		} {
			p, q := readProgram(t, "2 1 2|"+word+c.behind), readProgram(t, "2 1 2|"+c.other)
			code, want := c.code, c.in
			if n > c.room {
				code, want = impl.SatOpen, ""
			}
			for _, pair := range [][2]impl.Program{{p, q}, {q, p}} {
				if got, in := impl.Differ(pair[0], pair[1], 60, 8, 500); got != code || textOfInts(in) != want {
					t.Errorf("Differ with %d nodes, %q and %q = %d, %v, want %d", n, c.behind, c.other, got, in, code)
				}
			}
		}
	}
}

// TestP9DifferOfAny compares with the document's text, and with the runs of all tests.
func TestP9DifferOfAny(t *testing.T) {
	m := maker{state: 541}
	looping, _ := loopingPrograms(300)
	found := map[int]int{}
	later := 0
	for _, pair := range m.pairs(slices.Concat(forkingPrograms(700), looping, callingPrograms(300))) {
		p, q := pair[0], pair[1]
		fuel, most, limit := 20+m.below(40), 8+m.below(20), []int{0, 3, 10, 3000, 3000, 3000}[m.below(6)]
		want, first := slowDiffer(p, q, fuel, most, limit)
		code, in := impl.Differ(p, q, fuel, most, limit)
		found[code]++
		if code != want || !slices.Equal(in, first) {
			t.Errorf("Differ(%s, %s, %d, %d, %d) = %d, %v, want %d, %v", dumpProgram(p), dumpProgram(q), fuel, most, limit, code, in, want, first)
		}
		if code == impl.SatOpen {
			continue
		}
		least, differ := firstDifferent(p, q, 400)
		later += truth(slices.ContainsFunc(least, func(n int) bool { return n > 0 }))
		if differ != (code == impl.SatYes) || !slices.Equal(in, least) {
			t.Errorf("Differ(%s, %s, %d, %d, %d) = %d, %v, and the first of all tests is %v", dumpProgram(p), dumpProgram(q), fuel, most, limit, code, in, least)
		}
	}
	if found[impl.SatYes] < 150 || found[impl.SatNo] < 150 || found[impl.SatOpen] < 150 || later < 30 {
		t.Errorf("the codes are %v, and %d tests are not the first of all", found, later)
	}
}

// TestP9DifferLimits has a limit that is just great enough.
func TestP9DifferLimits(t *testing.T) {
	p, q := readProgram(t, "3 1 2|in r0|in r1|less r0 r1|out r0|halt"), readProgram(t, "3 1 2|in r0|in r1|below r0 r1|out r0|halt")
	enough := -1
	for limit := range 50 {
		code, in := impl.Differ(p, q, 20, 8, limit)
		if want, first := slowDiffer(p, q, 20, 8, limit); code != want || !slices.Equal(in, first) {
			t.Errorf("Differ with %d = %d, %v, want %d, %v", limit, code, in, want, first)
		}
		if code != impl.SatOpen && enough < 0 {
			enough = limit
		}
	}
	if enough < 1 {
		t.Errorf("%d splits are enough", enough)
	}
}

func TestP9DifferInvalid(t *testing.T) {
	mustBeZero := func(p, q impl.Program, fuel, most, limit int) {
		t.Helper()
		for _, pair := range [][2]impl.Program{{p, q}, {q, p}} {
			if code, in := impl.Differ(pair[0], pair[1], fuel, most, limit); code != 0 || len(in) != 0 {
				t.Errorf("Differ(%.300s, %.300s, %d, %d, %d) = %d, %v", dumpProgram(pair[0]), dumpProgram(pair[1]), fuel, most, limit, code, in)
			}
		}
	}
	p, q := readProgram(t, "3 2 1|ret|halt"), readProgram(t, "3 2 1|halt")
	for _, most := range []int{1, 64} {
		for _, fuel := range []int{1, 400} {
			for _, limit := range []int{0, 3000} {
				if code, in := impl.Differ(p, q, fuel, most, limit); code != impl.SatYes || textOfInts(in) != "0" {
					t.Errorf("Differ = %d, %v", code, in)
				}
			}
		}
	}
	for _, other := range []impl.Program{q, readProgram(t, "3 2 1|jump 0")} {
		for _, fuel := range badFuels {
			mustBeZero(p, other, fuel, 8, 100)
		}
		for _, most := range badMosts {
			mustBeZero(p, other, 20, most, 100)
		}
		for _, limit := range badLimits {
			mustBeZero(p, other, 20, 8, limit)
		}
		for _, bad := range badPrograms() {
			mustBeZero(bad, other, 20, 8, 100)
			mustBeZero(bad, bad, 20, 8, 100)
		}
	}
	// They differ in W, or in In.
	for _, text := range []string{"2 2 1|halt", "4 2 1|halt", "8 2 1|halt", "3 2 0|halt", "3 2 2|halt", "3 2 3|halt", "2 2 2|halt"} {
		mustBeZero(p, readProgram(t, text), 20, 8, 100)
		mustBeZero(q, readProgram(t, text), 20, 8, 100)
		mustBeZero(readProgram(t, "3 2 1|jump 0"), readProgram(t, text), 20, 1, 0)
	}
	mustBeZero(q, q, math.MaxInt, math.MaxInt, math.MaxInt)
}
