package tests

import (
	"math"
	"slices"
	"strings"
	"testing"

	"loop.example/g03219/impl"
)

// readTests returns the tests of a text as testsText writes it.
func readTests(t *testing.T, s string) [][]int {
	t.Helper()
	var l [][]int
	if s == "" {
		return nil
	}
	for _, text := range strings.Split(s, ", ") {
		l = append(l, readInts(t, text))
	}
	return l
}

// slowBranches is BranchesOf of a valid program.
func slowBranches(p impl.Program) []int {
	var l []int
	for pc := range p.Code {
		if p.Code[pc].Op == 10 {
			l = append(l, pc)
		}
	}
	return l
}

// slowLast is RunProgram of a test, by steps. It tells also which edges were taken.
func slowLast(p impl.Program, in []int, fuel int) (impl.State, map[int]bool) {
	s, edges := slowStart(p), map[int]bool{}
	for range fuel {
		if s.Code == 0 && s.Steps < 400 && s.Pc < len(p.Code) && p.Code[s.Pc].Op == 10 {
			edges[2*s.Pc+truth(s.Regs[p.Code[s.Pc].A] == 0)] = true
		}
		s = slowStep(p, s, in)
	}
	return s, edges
}

// slowCover is CoverAll of some tests.
func slowCover(p impl.Program, tests [][]int, fuel int) []int {
	var taken []map[int]bool
	for _, in := range tests {
		_, edges := slowLast(p, in, fuel)
		taken = append(taken, edges)
	}
	return inAny(p, taken)
}

// inAny are the edges that are in one of some sets, in ascending order.
func inAny(p impl.Program, taken []map[int]bool) []int {
	var l []int
	for edge := range 2 * len(p.Code) {
		if slices.ContainsFunc(taken, func(edges map[int]bool) bool { return edges[edge] }) {
			l = append(l, edge)
		}
	}
	return l
}

// slowSuite is SmallestSuite of at most 10 tests: it looks at all lists of their indices.
func slowSuite(p impl.Program, tests [][]int, fuel int) []int {
	var taken []map[int]bool
	for _, in := range tests {
		_, edges := slowLast(p, in, fuel)
		taken = append(taken, edges)
	}
	edges := inAny(p, taken)
	var best []int
	found := false
	for set := range 1 << len(tests) {
		var suite []int
		var chosen []map[int]bool
		for k := range tests {
			if set>>k%2 == 1 {
				suite, chosen = append(suite, k), append(chosen, taken[k])
			}
		}
		less := !found || len(suite) < len(best) || len(suite) == len(best) && slices.Compare(suite, best) < 0
		if less && slices.Equal(inAny(p, chosen), edges) {
			best, found = suite, true
		}
	}
	return best
}

// slowMutants is MutantsOf of a valid program, word for word.
func slowMutants(p impl.Program) []impl.Program {
	var l []impl.Program
	for pc, i := range p.Code {
		var others []impl.Ins
		switch i.Op {
		case 1:
			others = []impl.Ins{ins(1, i.A, (i.B+1)%power(p.W), 0)}
		case 3:
			next := map[int]int{13: 3, 16: 14}[i.C]
			if next == 0 {
				next = i.C + 1
			}
			others = []impl.Ins{ins(3, i.A, i.B, next)}
		case 10:
			others = []impl.Ins{ins(9, 0, i.B, 0), ins(2, i.A, i.A, 0)}
		case 13:
			others = []impl.Ins{ins(2, i.A, i.A, 0)}
		}
		for _, other := range others {
			l = append(l, changed(p, func(p *impl.Program) { p.Code[pc] = other }))
		}
	}
	return l
}

// slowSame reports whether two runs are the same.
func slowSame(p, q impl.Program, in []int, fuel int) bool {
	a, _ := slowLast(p, in, fuel)
	b, _ := slowLast(q, in, fuel)
	return a.Code == b.Code && slices.Equal(a.Out, b.Out)
}

// slowKills is KillsOf of tests of two valid programs.
func slowKills(p, q impl.Program, tests [][]int, fuel int) []int {
	var l []int
	for k, in := range tests {
		if !slowSame(p, q, in, fuel) {
			l = append(l, k)
		}
	}
	return l
}

// slowDifference is the term d of the document for two ends.
func slowDifference(a, b impl.Path) impl.Term {
	if a.Code != b.Code || len(a.Out) != len(b.Out) {
		return constant(1, 1)
	}
	d := constant(1, 0)
	for k := range a.Out {
		d = slowMake(impl.OpOr, 1, d, slowMake(impl.OpNot, 1, slowMake(impl.OpEq, 1, a.Out[k], b.Out[k])))
	}
	return d
}

// slowInputs are the inputs of some values.
func slowInputs(p impl.Program, l []impl.Value) []int {
	in := make([]int, p.In)
	for _, v := range l {
		in[slices.Index([]string{"i0", "i1", "i2"}, v.Name)] = v.N
	}
	return in
}

// slowDiffer is Differ of valid arguments, word for word.
func slowDiffer(p, q impl.Program, fuel, most, limit int) (int, []int) {
	ends, others := slowExplore(p, slowStartPath(p), fuel, nil), slowExplore(q, slowStartPath(q), fuel, nil)
	unknown := func(s impl.Path) bool { return s.Code == 0 || s.Code == 9 }
	if len(ends) > most || len(others) > most || slices.ContainsFunc(slices.Concat(ends, others), unknown) {
		return impl.SatOpen, nil
	}
	var found [][]int
	for _, a := range ends {
		for _, b := range others {
			code, values := impl.SatOpen, []impl.Value(nil)
			caught(func() {
				code, values = impl.SolveTerm(slowAll([]impl.Term{slowAll(a.Cond), slowAll(b.Cond), slowDifference(a, b)}), limit)
			})
			switch code {
			case impl.SatOpen:
				return impl.SatOpen, nil
			case impl.SatYes:
				found = append(found, slowInputs(p, values))
			}
		}
	}
	if len(found) == 0 {
		return impl.SatNo, nil
	}
	return impl.SatYes, slices.MinFunc(found, slices.Compare[[]int])
}

// firstDifferent returns the first test lexicographically for which the runs of two programs, of so many steps, are not the same.
func firstDifferent(p, q impl.Program, fuel int) ([]int, bool) {
	for _, in := range allWords(p) {
		if !slowSame(p, q, in, fuel) {
			return in, true
		}
	}
	return nil, false
}

// slowTurns are the Turns of the path of a test.
func slowTurns(p impl.Program, in []int, fuel int) []int {
	s, _ := impl.PathFor(p, in, fuel)
	return s.Turns
}

// slowConcolic is ConcolicTests of valid arguments, word for word.
func slowConcolic(p impl.Program, first []int, fuel, most, limit int) ([][]int, bool) {
	tests, turns := [][]int{first}, [][]int{slowTurns(p, first, fuel)}
	for k := 0; k < len(tests); k++ {
		s, _ := impl.PathFor(p, tests[k], fuel)
		for j, c := range s.Cond {
			code, values := impl.SatOpen, []impl.Value(nil)
			caught(func() {
				asked := append(slices.Clone(s.Cond[:j]), slowMake(impl.OpNot, 1, c))
				code, values = impl.SolveTerm(slowAll(asked), limit)
			})
			if code == impl.SatOpen {
				return nil, false
			}
			if code == impl.SatNo {
				continue
			}
			in := slowInputs(p, values)
			mine := slowTurns(p, in, fuel)
			if slices.ContainsFunc(turns, func(l []int) bool { return slices.Equal(l, mine) }) {
				continue
			}
			if len(tests) == most {
				return nil, false
			}
			tests, turns = append(tests, in), append(turns, mine)
		}
	}
	return tests, true
}

// slowShrink is ShrinkInputs of valid arguments, word for word.
func slowShrink(p impl.Program, in []int, fuel int) []int {
	want, _ := impl.PathFor(p, in, fuel)
	in = slices.Clone(in)
	for k := range in {
		for n := range power(p.W) {
			other := slices.Clone(in)
			other[k] = n
			s, _ := impl.PathFor(p, other, fuel)
			if slices.Equal(s.Turns, want.Turns) && s.Code == want.Code && len(s.Out) == len(want.Out) {
				in = other
				break
			}
		}
	}
	return in
}

// pairs are programs with the same W and In: some with one of their mutants, some with one that has another Mem, or an instruction or more at the end, and others that have little to do with each other.
func (m *maker) pairs(programs []impl.Program) [][2]impl.Program {
	var l [][2]impl.Program
	for k, p := range programs {
		q := copyOfProgram(p)
		mutants := slowMutants(p)
		switch kind := m.below(8); {
		case kind < 4 && len(mutants) > 0:
			q = mutants[m.below(len(mutants))]
		case kind == 4:
			q.Mem = 1 + m.below(min(3, power(p.W)-1))
		case kind == 5 && len(p.Code) < 40:
			q.Code = append(q.Code, ins(impl.InsOut, m.below(4), 0, 0))
		case kind == 6:
			q.Code[m.below(len(q.Code))] = m.forkingIns(p.W, len(q.Code))
		case kind == 7:
			q = copyOfProgram(programs[(k+1)%len(programs)])
			q.W, q.In = p.W, p.In
		}
		if impl.ProgramOk(q) {
			l = append(l, [2]impl.Program{p, q})
		}
	}
	return l
}

// tests makes tests of a program, some of them twice.
func (m *maker) tests(p impl.Program, n int) [][]int {
	var l [][]int
	for range n {
		l = append(l, m.inputs(p))
		if m.below(6) == 0 {
			l[len(l)-1] = l[0]
		}
	}
	return l
}

// badTests are lists in which one is no test of a program; the others are.
func badTests(p impl.Program) [][][]int {
	good := make([]int, p.In)
	var l [][][]int
	for _, bad := range badLists(p.W, p.In) {
		l = append(l, [][]int{bad}, [][]int{bad, good, good}, [][]int{good, bad, good}, [][]int{good, good, bad})
	}
	return l
}

var farFuels = []int{0, 1, 400, -1, 401, math.MinInt, math.MaxInt}
