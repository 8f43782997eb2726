package tests

import (
	"math"
	"slices"
	"strings"
	"testing"

	"loop.example/g03219/impl"
)

// outcomePath returns the text of a path with some outputs, a code and conditions.
func outcomePath(out, code, cond string) string {
	return pathWith("1|3:0, 3:0, 3:0, 3:0|3:0, 3:0||1||0|9||", outPart, out, codePart, code, condPart, cond)
}

func TestP8OutcomeTerm(t *testing.T) {
	p := readProgram(t, mergeProgram)
	six := "3:1, a:3, (not b:3), (sub a:3 a:3), 3:7, i0:3"
	for _, c := range []struct {
		paths []string
		wants [7]string
	}{
		// The term of one path is as it is there.
		{[]string{outcomePath("", "0", "")}, [7]string{"4:0", "3:0", "3:0", "3:0", "3:0", "3:0", "3:0"}}, {[]string{outcomePath("a:3", "9", "c:1")}, [7]string{"4:9", "a:3", "3:0", "3:0", "3:0", "3:0", "3:0"}}, {[]string{outcomePath(six, "1", "1:0")}, [7]string{"4:1", "3:1", "a:3", "(not b:3)", "(sub a:3 a:3)", "3:7", "i0:3"}},
		// Two paths: the conditions of the last one do not count.
		{[]string{outcomePath("a:3", "1", "c:1"), outcomePath("b:3, i0:3", "8", "d:1")}, [7]string{"(if c:1 4:1 4:8)", "(if c:1 a:3 b:3)", "(if c:1 3:0 i0:3)", "3:0", "3:0", "3:0", "3:0"}}, {[]string{outcomePath("a:3, 3:1", "1", "c:1"), outcomePath("a:3", "1", "d:1")}, [7]string{"4:1", "a:3", "(if c:1 3:1 3:0)", "3:0", "3:0", "3:0", "3:0"}},
		{[]string{outcomePath("a:3", "1", "c:1, d:1, (not e:1)"), outcomePath(six, "2", "")}, [7]string{"(if (and (not e:1) (and c:1 d:1)) 4:1 4:2)", "(if (and (not e:1) (and c:1 d:1)) a:3 3:1)", "(if (and (not e:1) (and c:1 d:1)) 3:0 a:3)", "(if (and (not e:1) (and c:1 d:1)) 3:0 (not b:3))", "(if (and (not e:1) (and c:1 d:1)) 3:0 (sub a:3 a:3))", "(if (and (not e:1) (and c:1 d:1)) 3:0 3:7)", "(if (and (not e:1) (and c:1 d:1)) 3:0 i0:3)"}},
		// A first path that always holds, or never, or where OpNot of something does.
		{[]string{outcomePath("a:3", "1", ""), outcomePath("b:3", "8", "d:1")}, [7]string{"4:1", "a:3", "3:0", "3:0", "3:0", "3:0", "3:0"}}, {[]string{outcomePath("a:3", "1", "1:0"), outcomePath("b:3", "8", "d:1")}, [7]string{"4:8", "b:3", "3:0", "3:0", "3:0", "3:0", "3:0"}}, {[]string{outcomePath("a:3", "1", "(not c:1)"), outcomePath("b:3", "8", "d:1")}, [7]string{"(if c:1 4:8 4:1)", "(if c:1 b:3 a:3)", "3:0", "3:0", "3:0", "3:0", "3:0"}},
		// Several paths, of which the first one that holds counts.
		{[]string{outcomePath("a:3", "1", "c:1"), outcomePath("", "2", "d:1"), outcomePath("b:3", "3", "e:1")}, [7]string{"(if c:1 4:1 (if d:1 4:2 4:3))", "(if c:1 a:3 (if d:1 3:0 b:3))", "3:0", "3:0", "3:0", "3:0", "3:0"}}, {[]string{outcomePath("a:3", "1", "c:1"), outcomePath("b:3", "1", "c:1"), outcomePath("b:3", "3", "e:1"), outcomePath("3:2, 3:3", "0", "")}, [7]string{"(if c:1 4:1 (if c:1 4:1 (if e:1 4:3 4:0)))", "(if c:1 a:3 (if c:1 b:3 (if e:1 b:3 3:2)))", "(if c:1 3:0 (if c:1 3:0 (if e:1 3:0 3:3)))", "3:0", "3:0", "3:0", "3:0"}},
	} {
		l := readPaths(t, c.paths...)
		for k := -1; k <= 5; k++ {
			if got, ok := impl.OutcomeTerm(p, l, k); !ok || textOf(got) != c.wants[k+1] {
				t.Errorf("OutcomeTerm(%s, %d) = %s, %v, want %s", strings.Join(c.paths, " & "), k, textOf(got), ok, c.wants[k+1])
			}
		}
	}
}

func mustHaveNoOutcome(t *testing.T, p impl.Program, l []impl.Path, k int) {
	t.Helper()
	if got, ok := impl.OutcomeTerm(p, l, k); ok || !isZero(got) {
		t.Errorf("OutcomeTerm(%.300s, %d paths, %d) = %.300s, %v", dumpProgram(p), len(l), k, dump(got), ok)
	}
}

// TestP8OutcomeTermFails has terms with just enough room and one node more, and conditions of which no term is made.
func TestP8OutcomeTermFails(t *testing.T) {
	p := readProgram(t, mergeProgram)
	with := func(n, out int) impl.Path {
		s := readPath(t, outcomePath("", "1", ""))
		s.Cond, s.Out = []impl.Term{flag(n, "c")}, []impl.Term{sized(3, out)}
		return s
	}
	plain, clash := readPath(t, outcomePath("b:3", "2", "")), readPath(t, outcomePath("3:1", "2", "v:1, (eq 2:0 v:2)"))
	for _, c := range []struct {
		name string
		l    []impl.Path
		ok   string
	}{
		{"one path whose conditions make no term", []impl.Path{with(239, 3)}, "code, output"}, {"the last path of two", []impl.Path{plain, with(239, 3)}, "code, output"}, {"the last path of two has conditions that clash", []impl.Path{plain, clash}, "code, output"}, {"the first path of two", []impl.Path{with(239, 3), plain}, ""}, {"the first path of two has conditions that clash", []impl.Path{clash, plain}, ""}, {"the second path of three", []impl.Path{plain, with(239, 3), plain}, ""}, {"the last path of three", []impl.Path{plain, plain, with(240, 3)}, "code, output"},
		{"a condition with enough room", []impl.Path{with(237, 1), plain}, "code, output"}, {"a condition with enough room for the code", []impl.Path{with(237, 2), plain}, "code"}, {"a condition of one node more", []impl.Path{with(238, 1), plain}, ""}, {"an output of 240 nodes", []impl.Path{with(1, 240)}, "code, output"}, {"an output of 237 nodes", []impl.Path{with(1, 237), plain}, "code, output"}, {"an output of 238 nodes", []impl.Path{with(1, 238), plain}, "code"}, {"the last output of 238 nodes", []impl.Path{with(1, 1), with(1, 238)}, "code"}, {"both outputs", []impl.Path{with(1, 119), with(1, 119)}, "code, output"}, {"both outputs with room left", []impl.Path{with(1, 118), with(1, 120)}, "code, output"}, {"both outputs of one node more", []impl.Path{with(1, 118), with(1, 121)}, "code"},
		{"an output with a variable of another width", []impl.Path{readPath(t, outcomePath("v:3", "1", "v:1")), plain}, "code"}, {"outputs with variables of other widths", []impl.Path{readPath(t, outcomePath("v:3", "1", "c:1")), readPath(t, outcomePath("(grow 3 v:2)", "1", "c:1"))}, "code"},
	} {
		for k, what := range map[int]string{-1: "code", 0: "output"} {
			want := strings.Contains(c.ok, what)
			if got, ok := impl.OutcomeTerm(p, c.l, k); ok != want || ok != impl.TermOk(got) {
				t.Errorf("%s: OutcomeTerm of the %s = %s, %v", c.name, what, textOf(got), ok)
			}
			if !want {
				mustHaveNoOutcome(t, p, c.l, k)
			}
		}
	}
}

// TestP8OutcomeTermOfAny compares with the document's text, for paths that have nothing to do with each other.
func TestP8OutcomeTermOfAny(t *testing.T) {
	m := maker{state: 383}
	done, failed := 0, 0
	for _, p := range append(forkingPrograms(300), somePrograms(100)...) {
		var l []impl.Path
		for range 1 + m.below(4) {
			l = append(l, m.path(p))
		}
		for k := -1; k <= 5; k++ {
			want, fine := slowOutcome(p, l, k)
			got, ok := impl.OutcomeTerm(p, l, k)
			if ok != fine || ok && textOf(got) != textOf(want) || !ok && !isZero(got) {
				t.Errorf("OutcomeTerm(%s, %s, %d) = %s, %v, want %s, %v", dumpProgram(p), textOfPaths(l), k, dump(got), ok, dump(want), fine)
			}
			if ok {
				done++
			} else {
				failed++
			}
		}
	}
	if done < 1500 || failed < 40 {
		t.Errorf("only %d terms are made, and %d not", done, failed)
	}
}

// TestP8OutcomesOfRuns compares the terms of the ends of programs with the codes and outputs of the runs of all tests.
func TestP8OutcomesOfRuns(t *testing.T) {
	m := maker{state: 389}
	words, outputs := 0, 0
	for _, p := range append(forkingPrograms(500), callingPrograms(300)...) {
		fuel := m.below(40)
		lists := [][]impl.Path{}
		for _, explore := range []func(impl.Program, int, int) ([]impl.Path, bool){impl.Explore, impl.ExploreSummed} {
			if l, ok := explore(p, fuel, 64); ok && !slices.ContainsFunc(l, func(s impl.Path) bool { return s.Code == impl.CodeBig }) {
				lists = append(lists, l)
			}
		}
		for _, l := range lists {
			for k := -1; k <= 5; k++ {
				u, ok := impl.OutcomeTerm(p, l, k)
				if !ok {
					continue
				}
				for _, in := range allWords(p) {
					run := impl.RunProgram(p, in, fuel)
					want := 0
					switch {
					case k == -1:
						want = run.Code
					case k < len(run.Out):
						want = run.Out[k]
						outputs++
					}
					words++
					if got := wordOf(u, wordsByName(in)); got != want {
						t.Errorf("OutcomeTerm of the ends of %s and %d is %d for %v, want %d", dumpProgram(p), k, got, in, want)
					}
				}
			}
		}
	}
	if words < 50000 || outputs < 2000 {
		t.Errorf("only %d words, and %d of outputs", words, outputs)
	}
}

func TestP8OutcomeTermInvalid(t *testing.T) {
	p := impl.Program{W: 3, Mem: 2, In: 1, Code: []impl.Ins{ins(5, 0, 0, 0), ins(10, 0, 3, 0), ins(14, 0, 0, 0)}}
	good := slowStartPath(p)
	good.Out = []impl.Term{variable(3, "i0")}
	for _, k := range []int{-2, -3, 6, 7, 1 << 32, math.MinInt, math.MaxInt} {
		mustHaveNoOutcome(t, p, []impl.Path{good}, k)
		mustHaveNoOutcome(t, p, []impl.Path{good, good}, k)
	}
	for k := -1; k <= 5; k++ {
		mustHaveNoOutcome(t, p, nil, k)
		mustHaveNoOutcome(t, p, []impl.Path{}, k)
		if _, ok := impl.OutcomeTerm(p, []impl.Path{good, good}, k); !ok {
			t.Errorf("OutcomeTerm of %d fails", k)
		}
	}
	for _, s := range badPaths(p) {
		for k := -1; k <= 5; k += 3 {
			mustHaveNoOutcome(t, p, []impl.Path{s}, k)
			mustHaveNoOutcome(t, p, []impl.Path{s, good}, k)
			mustHaveNoOutcome(t, p, []impl.Path{good, s}, k)
			mustHaveNoOutcome(t, p, []impl.Path{good, s, good}, k)
		}
	}
	for _, q := range badPrograms() {
		mustHaveNoOutcome(t, q, []impl.Path{good}, -1)
		mustHaveNoOutcome(t, q, []impl.Path{good}, 0)
		mustHaveNoOutcome(t, q, nil, 0)
		mustHaveNoOutcome(t, q, []impl.Path{{}}, 5)
	}
}

func TestP8EndsFor(t *testing.T) {
	p := readProgram(t, "3 2 2|in r0|in r1|halt")
	with := func(cond string) impl.Path { return withConds(t, p, cond) }
	holds, holdsNot := with("(eq i0:3 3:5), (less i1:3 i0:3)"), with("(eq i0:3 3:5), (eq i1:3 i0:3)")
	bad := changedPath(with(""), func(s *impl.Path) { s.Pc = 9 })
	for _, c := range []struct {
		l    []impl.Path
		in   []int
		want string
	}{
		{nil, []int{5, 1}, ""}, {[]impl.Path{}, []int{5, 1}, ""}, {[]impl.Path{holds}, []int{5, 1}, "0"}, {[]impl.Path{holdsNot}, []int{5, 1}, ""}, {[]impl.Path{holds, holdsNot}, []int{5, 1}, "0"}, {[]impl.Path{holds, holdsNot}, []int{5, 5}, "1"}, {[]impl.Path{holds, holdsNot}, []int{4, 1}, ""}, {[]impl.Path{holdsNot, holds, holds, with(""), holdsNot, holds}, []int{5, 4}, "1 2 3 5"},
		// Paths that are not valid, or whose conditions have another variable.
		{[]impl.Path{bad, holds, {}, holds, bad}, []int{5, 1}, "1 3"}, {[]impl.Path{bad, {}}, []int{5, 1}, ""}, {[]impl.Path{with("x:1"), with("1:1"), with("(eq i2:3 i2:3)"), with("(eq i0:4 i0:4)")}, []int{5, 1}, "1"},
		// No test.
		{[]impl.Path{holds, with("")}, []int{5}, ""}, {[]impl.Path{holds, with("")}, nil, ""}, {[]impl.Path{holds, with("")}, []int{5, 1, 0}, ""}, {[]impl.Path{holds, with("")}, []int{5, 8}, ""}, {[]impl.Path{holds, with("")}, []int{-1, 1}, ""},
	} {
		if got := impl.EndsFor(p, c.l, c.in); textOfInts(got) != c.want {
			t.Errorf("EndsFor(%d paths, %v) = %v, want %s", len(c.l), c.in, got, c.want)
		}
	}
	for _, q := range badPrograms() {
		for _, in := range [][]int{nil, {0}, {5, 1}} {
			if got := impl.EndsFor(q, []impl.Path{holds, {}, with("")}, in); len(got) != 0 {
				t.Errorf("EndsFor(%.300s, %v) = %v", dumpProgram(q), in, got)
			}
		}
	}
}

// TestP8EndsForOfAny compares with HoldsPath's own definition, for paths that are valid and others.
func TestP8EndsForOfAny(t *testing.T) {
	m := maker{state: 397}
	held := 0
	for _, p := range forkingPrograms(120) {
		bad := badPaths(p)
		var l []impl.Path
		for range 12 {
			s := m.path(p)
			if m.below(4) == 0 {
				s = bad[m.below(len(bad))]
			}
			l = append(l, s)
		}
		for _, in := range allWords(p) {
			var want []int
			for k, s := range l {
				if impl.PathOk(p, s) && slowHolds(p, s, in) {
					want = append(want, k)
				}
			}
			held += len(want)
			if got := impl.EndsFor(p, l, in); !slices.Equal(got, want) {
				t.Errorf("EndsFor(%s, %v) = %v, want %v", dumpProgram(p), in, got, want)
			}
		}
	}
	if held < 5000 {
		t.Errorf("only %d paths hold", held)
	}
}
