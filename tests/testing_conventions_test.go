package tests

import (
	"math"
	"slices"
	"strconv"
	"strings"
	"testing"

	"loop.example/g03219/impl"
)

// A testArgs has arguments for all functions of tests.
type testArgs struct {
	p, q              impl.Program
	in                []int
	tests             [][]int
	fuel, most, limit int
}

func intsUse(l []int) ([]region, string) {
	return regionOf(l), textOfInts(l) + "true"
}

func testsUse(tests [][]int, ok bool) ([]region, string) {
	l := regionOf(tests)
	for _, in := range tests {
		l = append(l, regionOf(in)...)
	}
	return l, testsText(tests) + strconv.FormatBool(ok)
}

func testUses() []use[testArgs] {
	return []use[testArgs]{
		{"BranchesOf", func(x testArgs) ([]region, string) { return intsUse(impl.BranchesOf(x.p)) }},
		{"CoverOf", func(x testArgs) ([]region, string) { return intsUse(impl.CoverOf(x.p, x.in, x.fuel)) }},
		{"CoverAll", func(x testArgs) ([]region, string) { return intsUse(impl.CoverAll(x.p, x.tests, x.fuel)) }},
		{"SmallestSuite", func(x testArgs) ([]region, string) { return intsUse(impl.SmallestSuite(x.p, x.tests, x.fuel)) }},
		{"MutantsOf", func(x testArgs) ([]region, string) {
			mutants := impl.MutantsOf(x.p)
			l, text := regionOf(mutants), ""
			for _, q := range mutants {
				l = append(l, regionOf(q.Code)...)
				text += textOfProgram(q)
			}
			return l, text + "true"
		}},
		{"KillsOf", func(x testArgs) ([]region, string) { return intsUse(impl.KillsOf(x.p, x.q, x.tests, x.fuel)) }},
		{"ScoreOf", func(x testArgs) ([]region, string) {
			score, all := impl.ScoreOf(x.p, x.tests, x.fuel)
			return nil, textOfInts([]int{score, all})
		}},
		{"Differ", func(x testArgs) ([]region, string) {
			code, in := impl.Differ(x.p, x.q, x.fuel, x.most, x.limit)
			return regionOf(in), textOfInts(append([]int{code}, in...)) + "true"
		}},
		{"ConcolicTests", func(x testArgs) ([]region, string) {
			return testsUse(impl.ConcolicTests(x.p, x.in, x.fuel, x.most, x.limit))
		}},
		{"ShrinkInputs", func(x testArgs) ([]region, string) { return intsUse(impl.ShrinkInputs(x.p, x.in, x.fuel)) }},
	}
}

// someTestArgs are arguments that are valid, but for those of every seventh one.
func someTestArgs(n int) []testArgs {
	m := maker{state: 569}
	var l []testArgs
	bad := badPrograms()
	looping, _ := loopingPrograms(n)
	for k, pair := range m.pairs(slices.Concat(forkingPrograms(n), looping))[:n] {
		p := pair[0]
		x := testArgs{p: p, q: pair[1], in: m.inputs(p), tests: m.tests(p, 1+m.below(5)), fuel: 10 + m.below(50), most: 4 + m.below(20), limit: 20 + m.below(100)}
		if k%3 == 0 {
			x.tests = append(x.tests, x.in)
		}
		switch k % 35 {
		case 6:
			x.p = bad[k/35%len(bad)]
		case 13:
			x.q = bad[k*3%len(bad)]
		case 20:
			lists := badLists(p.W, p.In)
			x.in = lists[k/35%len(lists)]
			x.tests = append(x.tests, x.in)
		case 27:
			x.tests = slices.Repeat(x.tests, 11)
		case 34:
			x.fuel, x.most, x.limit = 401, 65, 3001
		}
		l = append(l, x)
	}
	return l
}

func roomyTestArgs(x testArgs) testArgs {
	x.p, x.q = roomyPathArgs(pathArgs{p: x.p}).p, roomyPathArgs(pathArgs{p: x.q}).p
	x.in = roomyInts(x.in)
	x.tests = roomyList(x.tests, roomyInts, []int{77}, nil)
	return x
}

// dumpTestArgs writes all arguments that have memory, with what is in spare capacity.
func dumpTestArgs(x testArgs) string {
	parts := []string{dumpProgram(x.p), dumpProgram(x.q), dumpInts(x.in), strconv.Itoa(len(x.tests))}
	for _, in := range x.tests[:cap(x.tests)] {
		parts = append(parts, dumpInts(in))
	}
	return strings.Join(parts, "; ")
}

func testRegions(x testArgs) []region {
	l := slices.Concat(regionOf(x.p.Code), regionOf(x.q.Code), regionOf(x.in), regionOf(x.tests))
	for _, in := range x.tests[:cap(x.tests)] {
		l = append(l, regionOf(in)...)
	}
	return l
}

func TestP11ArgumentsOfTestsUnchanged(t *testing.T) {
	checkUnchanged(t, testUses(), someTestArgs(280), roomyTestArgs, dumpTestArgs)
}

func TestP11ResultsOfTestsAreNew(t *testing.T) {
	results := checkNew(t, testUses(), someTestArgs(280), roomyTestArgs, dumpTestArgs, testRegions)
	for _, use := range testUses() {
		if results[use.name] < 40 && use.name != "ScoreOf" {
			t.Errorf("%s has only %d results", use.name, results[use.name])
		}
	}
}

// TestP11ChangedResultsOfTests writes over results, and asks again.
func TestP11ChangedResultsOfTests(t *testing.T) {
	p := readProgram(t, sumProgram)
	q := impl.MutantsOf(p)[0]
	first, tests := []int{7}, [][]int{{4}, {0}, {5}}
	for range 2 {
		branches, cover, all := impl.BranchesOf(p), impl.CoverOf(p, first, 20), impl.CoverAll(p, tests, 20)
		suite, kills, shrunk := impl.SmallestSuite(p, tests, 20), impl.KillsOf(p, q, tests, 20), impl.ShrinkInputs(p, first, 20)
		mutants := impl.MutantsOf(p)
		_, in := impl.Differ(p, q, 20, 8, 100)
		concolic, _ := impl.ConcolicTests(p, first, 20, 8, 100)
		ints := [][]int{branches, cover, all, suite, kills, shrunk, in, concolic[0], concolic[1]}
		if got, changes := testsText(ints), changesOf(p, mutants); got != "3, 6, 6 7, 0 2, 0 1 2, 0, 0, 7, 5" || changes != "1 set r1 4, 2 sub r0 r1, 3 jump 6, 3 move r0 r0, 6 move r0 r0" {
			t.Errorf("a changed result changes others: %s; %s", got, changes)
		}
		for _, l := range ints {
			spoil(l, 77)
		}
		for _, mutant := range mutants {
			spoil(mutant.Code, ins(99, 9, 9, 9))
		}
		spoil(mutants, impl.Program{})
		spoil(concolic, []int{77})
	}
	if got := textOfInts(first) + ", " + testsText(tests); got != "7, 4, 0, 5" || textOfProgram(p) != textOfProgram(readProgram(t, sumProgram)) {
		t.Errorf("a changed result changes an argument: %s", got)
	}
}

// TestP11TestsThatShareMemory gives one program twice, and one list as several tests and as inputs.
func TestP11TestsThatShareMemory(t *testing.T) {
	p := readProgram(t, different5)
	in := []int{5}
	x := testArgs{p: p, q: p, in: in, tests: [][]int{in, in, in}, fuel: 20, most: 8, limit: 100}
	before, arguments := dumpTestArgs(x), testRegions(x)[:4]
	for k, want := range []string{"3true", "6true", "6true", "0true", "", "true", "3 4", "2true", "5, 0true", "5true"} {
		use := testUses()[k]
		result, text := use.call(x)
		if want != "" && text != want || dumpTestArgs(x) != before {
			t.Errorf("%s gives %s, and leaves %s", use.name, text, dumpTestArgs(x))
		}
		mustBeNew(t, use.name, result, arguments)
	}
}

func TestP11NilAndEmptyOfTests(t *testing.T) {
	p, q := readProgram(t, "3 1 0|zero r0 1|out r0"), readProgram(t, "3 1 0|zero r0 1|halt")
	for _, none := range [][]int{nil, {}} {
		tests := [][]int{none, none}
		got := []string{
			textOfInts(impl.CoverOf(p, none, 9)), textOfInts(impl.CoverAll(p, tests, 9)), textOfInts(impl.SmallestSuite(p, tests, 9)), textOfInts(impl.KillsOf(p, q, tests, 9)), textOfInts(impl.ShrinkInputs(p, none, 9)),
		}
		if want := []string{"1", "1", "0", "0 1", ""}; !slices.Equal(got, want) {
			t.Errorf("tests without inputs give %q", got)
		}
		if score, all := impl.ScoreOf(p, tests, 9); score != 0 || all != 2 {
			t.Errorf("ScoreOf = %d, %d", score, all)
		}
		if got, ok := impl.ConcolicTests(p, none, 9, 1, 0); !ok || len(got) != 1 || len(got[0]) != 0 {
			t.Errorf("ConcolicTests = %v, %v", got, ok)
		}
	}
	for _, none := range [][][]int{nil, {}} {
		if got := impl.CoverAll(p, none, 9); len(got) != 0 {
			t.Errorf("CoverAll of no tests = %v", got)
		}
		if got := impl.SmallestSuite(p, none, 9); len(got) != 0 {
			t.Errorf("SmallestSuite of no tests = %v", got)
		}
		if got := impl.KillsOf(p, q, none, 9); len(got) != 0 {
			t.Errorf("KillsOf of no tests = %v", got)
		}
		if score, all := impl.ScoreOf(p, none, 9); score != 0 || all != 2 {
			t.Errorf("ScoreOf of no tests = %d, %d", score, all)
		}
	}
}

// TestP11SameAnswersOfTests asks with several numbers of processors, and several goroutines at the same time.
func TestP11SameAnswersOfTests(t *testing.T) {
	args := someTestArgs(70)
	args = append(args, testArgs{p: readProgram(t, levels10), q: readProgram(t, bits), in: []int{3}, tests: [][]int{{0}, {3}, {12}}, fuel: 60, most: 64, limit: 3000})
	checkSameAnswers(t, testUses(), args)
}

// TestP11NoGoroutinesLeft checks that what a call has begun does not go on after it.
func TestP11NoGoroutinesLeft(t *testing.T) {
	x := testArgs{p: readProgram(t, levels10), q: readProgram(t, bits), in: []int{3}, tests: [][]int{{0}, {3}, {12}}, fuel: 60, most: 64, limit: 3000}
	tooSmall := x
	tooSmall.most, tooSmall.limit = 15, 0
	none := testArgs{p: readProgram(t, "2 1 0|halt"), q: readProgram(t, "2 1 0|halt"), fuel: 9, most: 1}
	checkNoneLeft(t, testUses(), []testArgs{x, tooSmall, none})
}

func TestP11NoPanicOfTests(t *testing.T) {
	good := someTestArgs(30)
	bad := badPrograms()
	for k, n := range oddInts {
		for j, x := range good {
			odd := func(step int) int { return oddInts[(k+step*j)%len(oddInts)] }
			x.fuel, x.most, x.limit = n, odd(1), odd(3)
			switch j % 6 {
			case 0:
				x.p = bad[(k*len(good)+j)%len(bad)]
			case 1:
				x.q = bad[(k*len(good)+j)%len(bad)]
			case 2:
				x.in = append(x.in, n)
				x.tests = append(x.tests, x.in)
			case 3:
				x.tests = slices.Repeat([][]int{{n}, nil, x.in}, 1+k%5)
				x.in = []int{n}
			case 4:
				// All numbers but one are as they should be.
				x.fuel, x.most, x.limit = 20, 8, 20
				numbers := []*int{&x.fuel, &x.most, &x.limit}
				*numbers[k%3] = n
			case 5:
				x.p, x.q = x.q, good[(j+k)%len(good)].p
				x.fuel, x.most, x.limit = farFuels[k%len(farFuels)], 64, 100
			}
			for _, use := range testUses() {
				mustNot(t, use.name, func() { use.call(x) })
			}
		}
	}
}

// TestP11TestsOfFarNumbers has arguments of which one is the least or the greatest int.
func TestP11TestsOfFarNumbers(t *testing.T) {
	p := readProgram(t, sumProgram)
	for _, n := range []int{math.MinInt, math.MaxInt} {
		for _, x := range []testArgs{
			{p: p, q: p, in: []int{n}, tests: [][]int{{n}}, fuel: 20, most: 8, limit: 100}, {p: p, q: p, in: []int{4}, tests: [][]int{{4}}, fuel: n, most: 8, limit: 100},
		} {
			got := testsText([][]int{impl.CoverOf(x.p, x.in, x.fuel), impl.CoverAll(x.p, x.tests, x.fuel), impl.SmallestSuite(x.p, x.tests, x.fuel), impl.KillsOf(x.p, x.q, x.tests, x.fuel), impl.ShrinkInputs(x.p, x.in, x.fuel)})
			if tests, ok := impl.ConcolicTests(x.p, x.in, x.fuel, x.most, x.limit); ok || len(tests) != 0 || got != ", , , , " {
				t.Errorf("%s gives %s, %v, %v", dumpTestArgs(x), got, tests, ok)
			}
		}
	}
}
