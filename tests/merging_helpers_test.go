package tests

import (
	"math"
	"slices"
	"strconv"
	"testing"

	"loop.example/g03219/impl"
)

// caught calls f and reports false if it panics with tooBig.
func caught(f func()) (ok bool) {
	defer func() {
		if r := recover(); r == tooBig {
			ok = false
		} else if r != nil {
			panic(r)
		}
	}()
	f()
	return true
}

// slowAll is AllOf; it panics with tooBig where that fails.
func slowAll(l []impl.Term) impl.Term {
	all := constant(1, 1)
	for _, u := range l {
		all = slowMake(impl.OpAnd, 1, all, u)
	}
	return all
}

// slowMerge is MergePaths of valid paths, word for word.
func slowMerge(a, b impl.Path) (impl.Path, bool) {
	if a.Pc != b.Pc || !slices.Equal(a.Stack, b.Stack) || a.In != b.In || a.Code != b.Code || len(a.Out) != len(b.Out) {
		return impl.Path{}, false
	}
	s := copyOfPath(b)
	ok := caught(func() {
		n := 0
		for n < len(a.Cond) && n < len(b.Cond) && alike(a.Cond[n], b.Cond[n]) {
			n++
		}
		x, y := slowAll(a.Cond[n:]), slowAll(b.Cond[n:])
		s.Cond = slices.Clone(a.Cond[:n])
		if either := slowMake(impl.OpOr, 1, x, y); textOf(either) != "1:1" {
			s.Cond = append(s.Cond, either)
		}
		choose := func(l, others []impl.Term) {
			for k, u := range l {
				if !alike(u, others[k]) {
					u = slowMake(impl.OpIf, u.W, x, u, others[k])
				}
				others[k] = u
			}
		}
		choose(a.Regs, s.Regs)
		choose(a.Mem, s.Mem)
		choose(a.Out, s.Out)
	})
	if !ok || len(s.Cond) > 60 {
		return impl.Path{}, false
	}
	s.Steps = max(a.Steps, b.Steps)
	s.Turns = nil
	for k := 0; k < len(a.Turns) && k < len(b.Turns) && a.Turns[k] == b.Turns[k]; k++ {
		s.Turns = append(s.Turns, a.Turns[k])
	}
	return s, true
}

func slowOpen(s impl.Path) bool {
	return s.Code == 0 && s.Steps < 400
}

// slowRound makes a round of ExploreMerged.
func slowRound(p impl.Program, open, ends []impl.Path) ([]impl.Path, []impl.Path) {
	taken := 0
	for k, s := range open {
		best := open[taken]
		if len(s.Stack) > len(best.Stack) || len(s.Stack) == len(best.Stack) && s.Pc < best.Pc {
			taken = k
		}
	}
	s := open[taken]
	open = slices.Delete(slices.Clone(open), taken, taken+1)
	for k := 0; k < len(open); {
		if both, ok := slowMerge(s, open[k]); ok {
			s = both
			open = slices.Delete(open, k, k+1)
		} else {
			k++
		}
	}
	for _, after := range slowPaths(p, s) {
		if slowOpen(after) {
			open = append(open, after)
		} else {
			ends = append(ends, after)
		}
	}
	return open, ends
}

// slowMergedEnds is the last part of ExploreMerged.
func slowMergedEnds(l []impl.Path) []impl.Path {
	ends := slices.Clone(l)
	for k := 0; k < len(ends); {
		merged := false
		for j := 0; j < k && !merged; j++ {
			if both, ok := slowMerge(ends[j], ends[k]); ok {
				ends[j] = both
				merged = true
			}
		}
		if merged {
			ends = slices.Delete(ends, k, k+1)
		} else {
			k++
		}
	}
	return ends
}

// slowExploreMerged is ExploreMerged of a valid program, word for word, with a limit for the paths at any time and none for the ends at last.
func slowExploreMerged(p impl.Program, fuel, limit int) ([]impl.Path, bool) {
	open, ends := []impl.Path{slowStartPath(p)}, []impl.Path{}
	for range fuel {
		if len(open) == 0 {
			break
		}
		open, ends = slowRound(p, open, ends)
		if len(open) > limit || len(ends) > limit {
			return nil, false
		}
	}
	ends = append(ends, open...)
	if len(ends) > limit {
		return nil, false
	}
	return slowMergedEnds(ends), true
}

// opAt is the Op of the instruction at which a path is, or 0.
func opAt(p impl.Program, s impl.Path) int {
	if s.Code != 0 || s.Pc == len(p.Code) {
		return 0
	}
	return p.Code[s.Pc].Op
}

// unknownState is the path with which the exploration of a function begins.
func unknownState(p impl.Program, entry int) impl.Path {
	s := impl.Path{Pc: entry}
	for k := range 4 {
		s.Regs = append(s.Regs, variable(p.W, "r"+strconv.Itoa(k)))
	}
	for k := range p.Mem {
		s.Mem = append(s.Mem, variable(p.W, "m"+strconv.Itoa(k)))
	}
	return s
}

// slowSummary is SummaryOf of valid arguments, word for word.
func slowSummary(p impl.Program, entry, fuel, most int) ([]impl.Path, bool) {
	var ends []impl.Path
	fine := true
	var from func(s impl.Path, left int)
	from = func(s impl.Path, left int) {
		next := slowPaths(p, s)
		op := opAt(p, s)
		switch {
		case !fine || len(ends) > most:
		case op == 12:
			ends = append(ends, s)
		case left == 0 || len(next) == 0:
			ends = append(ends, s)
			fine = fine && s.Code != 9 && s.Code != 0
		case op == 5 || op == 6 || op == 11:
			fine = false
		default:
			for _, after := range next {
				from(after, left-1)
			}
		}
	}
	from(unknownState(p, entry), fuel)
	if !fine || len(ends) > most {
		return nil, false
	}
	return ends, true
}

// slowPut puts the registers and cells of a path in place of the variables of a term; it panics with tooBig where that is not valid.
func slowPut(s impl.Path, u impl.Term) impl.Term {
	var put func(u impl.Term) impl.Term
	put = func(u impl.Term) impl.Term {
		for k, v := range s.Regs {
			if u.Op == impl.OpVar && u.Name == "r"+strconv.Itoa(k) {
				return v
			}
		}
		for k, v := range s.Mem {
			if u.Op == impl.OpVar && u.Name == "m"+strconv.Itoa(k) {
				return v
			}
		}
		kids := slices.Clone(u.Kids)
		for k := range kids {
			kids[k] = put(kids[k])
		}
		u.Kids = kids
		return u
	}
	u = put(u)
	if !impl.TermOk(u) {
		panic(tooBig)
	}
	return impl.Simplify(u)
}

// slowApply is ApplySummary of valid paths, word for word.
func slowApply(p impl.Program, s impl.Path, l []impl.Path) ([]impl.Path, bool) {
	if opAt(p, s) != 11 || len(s.Stack) == 3 {
		return nil, false
	}
	var next []impl.Path
	for _, e := range l {
		if len(e.Turns) != len(e.Cond) {
			return nil, false
		}
		after, given := copyOfPath(s), true
		ok := caught(func() {
			for k, c := range e.Cond {
				switch u := slowPut(s, c); {
				case u.Op == impl.OpConst && u.N == 0:
					given = false
				case u.Op != impl.OpConst || u.N != 1:
					after.Cond, after.Turns = append(after.Cond, u), append(after.Turns, e.Turns[k])
				}
			}
			for k, u := range e.Regs {
				after.Regs[k] = slowPut(s, u)
			}
			for k, u := range e.Mem {
				after.Mem[k] = slowPut(s, u)
			}
		})
		if e.Code == 0 {
			after.Pc, after.Steps = s.Pc+1, s.Steps+e.Steps+2
		} else {
			after.Pc, after.Code, after.Stack, after.Steps = e.Pc, e.Code, append(after.Stack, s.Pc+1), s.Steps+e.Steps+1
		}
		if !ok || given && !impl.PathOk(p, after) {
			return nil, false
		}
		if given {
			next = append(next, after)
		}
	}
	return next, true
}

// A slowSum explores as ExploreSummed does, word for word, without a limit but that of 500 ends.
type slowSum struct {
	p          impl.Program
	fuel, most int
	ends       []impl.Path
	// How many calls were done by their summaries, and how many were not.
	summed, plain int
	known         map[int][]impl.Path
}

func (x *slowSum) called(s impl.Path, left int) ([]impl.Path, bool) {
	entry := x.p.Code[s.Pc].B
	l, known := x.known[entry]
	if !known {
		l, _ = slowSummary(x.p, entry, x.fuel, x.most)
		x.known[entry] = l
	}
	next, ok := slowApply(x.p, s, l)
	for _, after := range next {
		ok = ok && x.taken(s, after) <= left
	}
	return next, ok && l != nil
}

func (x *slowSum) taken(s, after impl.Path) int {
	if after.Code == 2 {
		return after.Steps - s.Steps + 1
	}
	return after.Steps - s.Steps
}

func (x *slowSum) from(s impl.Path, left int) {
	next := slowPaths(x.p, s)
	if len(x.ends) > 500 {
		return
	}
	if left == 0 || len(next) == 0 {
		x.ends = append(x.ends, s)
		return
	}
	if opAt(x.p, s) == 11 {
		x.plain++
		if l, ok := x.called(s, left); ok {
			x.plain--
			x.summed++
			next = l
		}
	}
	for _, after := range next {
		x.from(after, left-x.taken(s, after))
	}
}

func slowExploreSummed(p impl.Program, fuel, most int) *slowSum {
	x := &slowSum{p: p, fuel: fuel, most: most, known: map[int][]impl.Path{}}
	x.from(slowStartPath(p), fuel)
	return x
}

// slowOutcome is OutcomeTerm of valid arguments, word for word.
func slowOutcome(p impl.Program, l []impl.Path, k int) (impl.Term, bool) {
	one := func(s impl.Path) impl.Term {
		switch {
		case k == -1:
			return constant(4, s.Code)
		case k < len(s.Out):
			return s.Out[k]
		}
		return constant(p.W, 0)
	}
	u := one(l[len(l)-1])
	ok := caught(func() {
		for _, s := range slices.Backward(l[:len(l)-1]) {
			u = slowMake(impl.OpIf, u.W, slowAll(s.Cond), one(s), u)
		}
	})
	return u, ok
}

// callingPrograms read inputs of at most 6 bits together, and have functions that return, most of which make no outputs.
func callingPrograms(n int) []impl.Program {
	m := maker{state: 331}
	var l []impl.Program
	for len(l) < n {
		p := impl.Program{W: 2 + m.below(2), Mem: 1 + m.below(2), In: m.below(3)}
		body, sizes := 2+m.below(5), []int{1 + m.below(4), 1 + m.below(4)}
		first := p.In + body + 1
		entries := []int{first, first + sizes[0] + 1}
		size := entries[1] + sizes[1] + 1
		for k := range p.In {
			p.Code = append(p.Code, ins(impl.InsIn, k, 0, 0))
		}
		for range body {
			i := m.forkingIns(p.W, size)
			if m.below(2) == 0 {
				i = ins(impl.InsCall, 0, entries[m.below(2)], 0)
			}
			p.Code = append(p.Code, i)
		}
		p.Code = append(p.Code, ins(impl.InsHalt, 0, 0, 0))
		for _, inside := range sizes {
			for range inside {
				p.Code = append(p.Code, m.functionIns(p, size))
			}
			p.Code = append(p.Code, ins(impl.InsRet, 0, 0, 0))
		}
		l = append(l, p)
	}
	return l
}

// functionIns makes an instruction that seldom keeps a function from being summed up.
func (m *maker) functionIns(p impl.Program, size int) impl.Ins {
	for {
		i := m.forkingIns(p.W, size)
		ahead := i.Op != impl.InsJump && i.Op != impl.InsZero || i.B > len(p.Code)
		calls := i.Op == impl.InsIn || i.Op == impl.InsOut || i.Op == impl.InsCall
		if m.below(12) == 0 || ahead && !calls {
			return i
		}
	}
}

// relatives makes two valid paths that often can be merged.
func (m *maker) relatives(p impl.Program) (impl.Path, impl.Path) {
	a := m.path(p)
	if m.below(2) == 0 {
		a.Code = 0
	}
	b := copyOfPath(a)
	other := m.path(p)
	b.Steps = other.Steps
	for k := range 4 {
		if m.below(3) == 0 {
			b.Regs[k] = other.Regs[k]
		}
	}
	for k := range p.Mem {
		if m.below(3) == 0 {
			b.Mem[k] = other.Mem[k]
		}
	}
	for k := range b.Out {
		if m.below(2) == 0 {
			b.Out[k] = m.termOver(p, p.W)
		}
	}
	keep := m.below(len(a.Cond) + 1)
	b.Cond = append(b.Cond[:keep:keep], m.termsOver(p, 1, m.below(min(3, 61-keep)))...)
	keep = m.below(len(a.Turns) + 1)
	b.Turns = append(b.Turns[:keep:keep], m.wordsBelow(0, min(2, 60-keep), 2)...)
	switch m.below(16) {
	case 0:
		b.Pc = other.Pc
	case 1:
		b.Stack = other.Stack
	case 2:
		b.In = other.In
	case 3:
		b.Code = other.Code
	case 4:
		b.Out = other.Out
	}
	return a, b
}

// callArgs makes a path at an InsCall, if the program has one, and a summary for it.
func (m *maker) callArgs(p impl.Program) (impl.Path, []impl.Path) {
	s := m.path(p)
	if m.below(10) > 0 {
		s.Code = 0
	}
	if len(s.Stack) == 3 && m.below(10) > 0 {
		s.Stack = s.Stack[:2]
	}
	var calls []int
	for pc, i := range p.Code {
		if i.Op == impl.InsCall {
			calls = append(calls, pc)
		}
	}
	if len(calls) == 0 {
		return s, nil
	}
	s.Pc = calls[m.below(len(calls))]
	if m.below(2) == 0 {
		if l, ok := slowSummary(p, p.Code[s.Pc].B, 30, 64); ok {
			return s, l
		}
	}
	return s, m.elements(p)
}

// elements makes valid paths as a summary has them, over registers and cells.
func (m *maker) elements(p impl.Program) []impl.Path {
	var l []impl.Path
	for range m.below(4) {
		e := m.path(p)
		e.Cond = e.Cond[:min(len(e.Cond), len(e.Turns))]
		e.Turns = e.Turns[:len(e.Cond)]
		e.Steps = m.below(30)
		if m.below(2) == 0 {
			e.Code = m.below(10)
		}
		for _, terms := range [][]impl.Term{e.Regs, e.Mem, e.Cond} {
			for k := range terms {
				terms[k] = m.overState(terms[k])
			}
		}
		if impl.PathOk(p, e) {
			l = append(l, e)
		}
	}
	return l
}

// overState puts names of registers and cells, some of them none of the program, in place of some variables.
func (m *maker) overState(u impl.Term) impl.Term {
	if u.Op == impl.OpVar && m.below(5) > 0 {
		u.Name = []string{"r0", "r1", "r2", "r3", "m0", "m1", "m2", "r4", "i0"}[m.below(9)]
		return u
	}
	kids := slices.Clone(u.Kids)
	for k := range kids {
		kids[k] = m.overState(kids[k])
	}
	u.Kids = kids
	return u
}

func readPaths(t *testing.T, texts ...string) []impl.Path {
	t.Helper()
	var l []impl.Path
	for _, text := range texts {
		l = append(l, readPath(t, text))
	}
	return l
}

var badMosts = []int{0, -1, 65, 66, 1 << 32, math.MinInt, math.MaxInt}

// checkInvalidExploring calls a function that explores as Explore does with each argument that is not valid.
func checkInvalidExploring(t *testing.T, name string, explore func(p impl.Program, fuel, most int) ([]impl.Path, bool)) {
	t.Helper()
	mustFail := func(p impl.Program, fuel, most int) {
		t.Helper()
		if got, ok := explore(p, fuel, most); ok || len(got) != 0 {
			t.Errorf("%s(%.300s, %d, %d) = %s, %v", name, dumpProgram(p), fuel, most, textOfPaths(got), ok)
		}
	}
	p := readProgram(t, "3 2 1|ret|halt")
	for _, fuel := range badFuels {
		mustFail(p, fuel, 8)
	}
	for _, most := range badMosts {
		mustFail(p, 5, most)
		mustFail(p, 0, most)
	}
	for _, bad := range badPrograms() {
		mustFail(bad, 5, 8)
		mustFail(bad, 0, 8)
	}
	if got, ok := explore(p, 5, 8); !ok || len(got) != 1 {
		t.Errorf("%s = %s, %v", name, textOfPaths(got), ok)
	}
}
