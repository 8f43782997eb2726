package tests

import (
	"slices"
	"strconv"
	"strings"
	"testing"

	"loop.example/g03219/impl"
)

// A pathArgs has arguments for all functions of paths.
type pathArgs struct {
	p                 impl.Program
	s                 impl.Path
	in, turns         []int
	fuel, most, limit int
}

func pathRegions(s impl.Path) []region {
	l := slices.Concat(regionOf(s.Stack), regionOf(s.Turns))
	for _, terms := range [][]impl.Term{s.Regs, s.Mem, s.Out, s.Cond} {
		l = slices.Concat(l, regionOf(terms), regionsOf(terms...))
	}
	return l
}

func pathUseOf(s impl.Path, ok bool) ([]region, string) {
	return pathRegions(s), textOfPath(s) + strconv.FormatBool(ok)
}

func pathsUseOf(paths []impl.Path, ok bool) ([]region, string) {
	l := regionOf(paths)
	for _, s := range paths {
		l = append(l, pathRegions(s)...)
	}
	return l, textOfPaths(paths) + strconv.FormatBool(ok)
}

func pathUses() []use[pathArgs] {
	return []use[pathArgs]{
		{"PathOk", func(x pathArgs) ([]region, string) { return boolUse(impl.PathOk(x.p, x.s)) }},
		{"StartPath", func(x pathArgs) ([]region, string) { return pathUseOf(impl.StartPath(x.p), true) }},
		{"StepPath", func(x pathArgs) ([]region, string) { return pathsUseOf(impl.StepPath(x.p, x.s), true) }},
		{"PathTerm", func(x pathArgs) ([]region, string) {
			u, ok := impl.PathTerm(x.s)
			return regionsOf(u), textOf(u) + strconv.FormatBool(ok)
		}},
		{"HoldsPath", func(x pathArgs) ([]region, string) { return boolUse(impl.HoldsPath(x.p, x.s, x.in)) }},
		{"EvalPath", func(x pathArgs) ([]region, string) {
			s, ok := impl.EvalPath(x.p, x.s, x.in)
			return stateRegions(s), textOfState(s) + strconv.FormatBool(ok)
		}},
		{"EvalPath without conditions", func(x pathArgs) ([]region, string) {
			x.s.Cond = nil
			s, ok := impl.EvalPath(x.p, x.s, x.in)
			return stateRegions(s), textOfState(s) + strconv.FormatBool(ok)
		}},
		{"PathInputs", func(x pathArgs) ([]region, string) {
			code, in := impl.PathInputs(x.p, x.s, x.limit)
			return regionOf(in), textOfInts(append([]int{code}, in...))
		}},
		{"PathFor", func(x pathArgs) ([]region, string) { return pathUseOf(impl.PathFor(x.p, x.in, x.fuel)) }},
		{"Explore", func(x pathArgs) ([]region, string) { return pathsUseOf(impl.Explore(x.p, x.fuel, x.most)) }},
		{"ExploreFeasible", func(x pathArgs) ([]region, string) {
			return pathsUseOf(impl.ExploreFeasible(x.p, x.fuel, x.most, x.limit))
		}},
		{"TestsOf", func(x pathArgs) ([]region, string) {
			tests, ok := impl.TestsOf(x.p, x.fuel, x.most, x.limit)
			l := regionOf(tests)
			for _, in := range tests {
				l = append(l, regionOf(in)...)
			}
			return l, testsText(tests) + strconv.FormatBool(ok)
		}},
		{"PathWith", func(x pathArgs) ([]region, string) { return pathUseOf(impl.PathWith(x.p, x.turns, x.fuel)) }},
	}
}

// somePathArgs are arguments that are valid, but for those of every seventh one.
func somePathArgs(n int) []pathArgs {
	m := maker{state: 269}
	var l []pathArgs
	bad := badPrograms()
	for k, p := range forkingPrograms(n) {
		x := pathArgs{p: p, s: m.path(p), in: m.inputs(p), turns: m.wordsBelow(0, 2, 2), fuel: m.below(15), most: 1 + m.below(12), limit: m.below(3001)}
		switch k % 28 {
		case 6:
			x.p = bad[k/28%len(bad)]
		case 13:
			paths := badPaths(p)
			x.s = paths[k*5%len(paths)]
		case 20:
			lists := badLists(p.W, p.In)
			x.in = lists[k/28%len(lists)]
		case 27:
			x.turns, x.fuel, x.most, x.limit = []int{2}, 401, 65, 3001
		}
		l = append(l, x)
	}
	return l
}

func roomyTerms(l []impl.Term) []impl.Term {
	return roomy(impl.Term{Kids: l}).Kids
}

func roomyPathArgs(x pathArgs) pathArgs {
	x.p.Code = append(slices.Clone(x.p.Code), ins(14, 0, 0, 0), ins(99, 1, 2, 3))[:len(x.p.Code)]
	x.s.Regs, x.s.Mem, x.s.Out, x.s.Cond = roomyTerms(x.s.Regs), roomyTerms(x.s.Mem), roomyTerms(x.s.Out), roomyTerms(x.s.Cond)
	x.s.Stack, x.s.Turns, x.in, x.turns = roomyInts(x.s.Stack), roomyInts(x.s.Turns), roomyInts(x.in), roomyInts(x.turns)
	return x
}

func dumpPath(s impl.Path) string {
	return strings.Join([]string{
		textOfInts([]int{s.Pc, s.In, s.Code, s.Steps}), dumpInts(s.Stack), dumpInts(s.Turns),
		dump(impl.Term{Kids: s.Regs}), dump(impl.Term{Kids: s.Mem}), dump(impl.Term{Kids: s.Out}), dump(impl.Term{Kids: s.Cond}),
	}, " ")
}

// dumpPathArgs writes all arguments that have memory, with what is in spare capacity.
func dumpPathArgs(x pathArgs) string {
	return strings.Join([]string{dumpProgram(x.p), dumpPath(x.s), dumpInts(x.in), dumpInts(x.turns)}, "; ")
}

func TestP11ArgumentsOfPathsUnchanged(t *testing.T) {
	checkUnchanged(t, pathUses(), somePathArgs(700), roomyPathArgs, dumpPathArgs)
}

func TestP11PathsAreNew(t *testing.T) {
	for _, plain := range somePathArgs(400) {
		x := roomyPathArgs(plain)
		arguments := slices.Concat(regionOf(x.p.Code), pathRegions(x.s), regionOf(x.in), regionOf(x.turns))
		for _, use := range pathUses() {
			result, _ := use.call(x)
			mustBeNew(t, use.name+" of "+dumpProgram(x.p), result, arguments)
		}
	}
}

// TestP11StepsOfPathsAreNew has each instruction, with a place behind which there is room in all lists.
func TestP11StepsOfPathsAreNew(t *testing.T) {
	m := maker{state: 271}
	for _, p := range slices.Concat(somePrograms(150), forkingPrograms(150)) {
		for range 6 {
			x := roomyPathArgs(pathArgs{p: p, s: m.path(p)})
			before := dumpPath(x.s)
			got := impl.StepPath(p, x.s)
			result, _ := pathsUseOf(got, true)
			mustBeNew(t, "StepPath of "+textOfPath(x.s), result, slices.Concat(regionOf(p.Code), pathRegions(x.s)))
			for _, s := range got {
				spoil(s.Stack, 77)
				spoil(s.Turns, 77)
				for _, l := range [][]impl.Term{s.Regs, s.Mem, s.Out, s.Cond} {
					for _, u := range l {
						spoil(u.Kids, impl.Term{W: 77})
					}
					spoil(l, impl.Term{W: 77})
				}
			}
			if after := dumpPath(x.s); after != before {
				t.Errorf("a changed result of StepPath changes %s to %s", before, after)
			}
		}
	}
}

// TestP11PathsThatShareMemory gives a path all of whose lists of terms are one, and some of whose terms have the same kids.
func TestP11PathsThatShareMemory(t *testing.T) {
	p := readProgram(t, "3 4 3|not r1|store r1 r0|out r0|call 0|move r2 r0|load r2 r1|zero r0 0|store r3 r0|div r0 r0|check r1|in r2|ret")
	kids := []impl.Term{variable(3, "i0"), variable(3, "i1")}
	u, v := impl.Term{Op: impl.OpAdd, W: 3, Kids: kids}, impl.Term{Op: impl.OpSub, W: 3, Kids: kids}
	terms := []impl.Term{u, v, u, constant(3, 2)}
	ints := []int{1, 0, 1}
	conds := []impl.Term{{Op: impl.OpLess, W: 1, Kids: terms[:2]}, {Op: impl.OpEq, W: 1, Kids: kids}}
	s := impl.Path{Regs: terms, Mem: terms, Out: terms, Stack: ints[:2], Turns: ints[:2], Cond: conds}
	for pc := range p.Code {
		s.Pc = pc
		want := textOfPaths(slowPaths(p, s))
		before := dumpPath(s)
		got := impl.StepPath(p, s)
		if textOfPaths(got) != want || dumpPath(s) != before {
			t.Errorf("StepPath at %d = %s, want %s, and the path is %s", pc, textOfPaths(got), want, dumpPath(s))
		}
		result, _ := pathsUseOf(got, true)
		mustBeNew(t, "StepPath at "+strconv.Itoa(pc), result, slices.Concat(pathRegions(s), regionOf(ints)))
	}
	before := dumpPath(s)
	state, ok := impl.EvalPath(p, changedPath(s, func(s *impl.Path) { s.Cond = nil }), []int{5, 1, 2})
	if !ok || textOfState(state) != "11|6 4 6 2|6 4 6 2|1 0|0|6 4 6 2|0|0" || dumpPath(s) != before {
		t.Errorf("EvalPath = %s, %v", textOfState(state), ok)
	}
	mustBeNew(t, "EvalPath", stateRegions(state), slices.Concat(pathRegions(s), regionOf(ints)))
}

func TestP11NilAndEmptyOfPaths(t *testing.T) {
	p := readProgram(t, "3 2 0|out r0|call 0")
	for _, none := range [][]int{nil, {}} {
		for _, no := range [][]impl.Term{nil, {}} {
			s := slowStartPath(p)
			s.Stack, s.Turns, s.Out, s.Cond = none, none, no, no
			if !impl.PathOk(p, s) || !impl.HoldsPath(p, s, none) {
				t.Error("nil and empty lists differ")
			}
			if got := textOfPaths(impl.StepPath(p, s)); got != "1|3:0, 3:0, 3:0, 3:0|3:0, 3:0||0|3:0|0|1||" {
				t.Errorf("StepPath = %s", got)
			}
			if got, ok := impl.PathTerm(s); !ok || textOf(got) != "1:1" {
				t.Errorf("PathTerm = %s, %v", textOf(got), ok)
			}
			if code, in := impl.PathInputs(p, s, 0); code != impl.SatYes || len(in) != 0 {
				t.Errorf("PathInputs = %d, %v", code, in)
			}
			if got, ok := impl.EvalPath(p, s, none); !ok || textOfState(got) != "0|0 0 0 0|0 0||0||0|0" {
				t.Errorf("EvalPath = %s, %v", textOfState(got), ok)
			}
		}
		if got, ok := impl.PathFor(p, none, 2); !ok || textOfPath(got) != "0|3:0, 3:0, 3:0, 3:0|3:0, 3:0|2|0|3:0|0|2||" {
			t.Errorf("PathFor = %s, %v", textOfPath(got), ok)
		}
		if got, ok := impl.PathWith(p, none, 2); !ok || textOfPath(got) != "0|3:0, 3:0, 3:0, 3:0|3:0, 3:0|2|0|3:0|0|2||" {
			t.Errorf("PathWith = %s, %v", textOfPath(got), ok)
		}
	}
	// Terms with empty lists of kids.
	s := slowStartPath(p)
	s.Regs = repeatedTerm(impl.Term{Op: impl.OpConst, W: 3, Kids: []impl.Term{}}, 4)
	if got := textOfPaths(impl.StepPath(p, s)); got != "1|3:0, 3:0, 3:0, 3:0|3:0, 3:0||0|3:0|0|1||" {
		t.Errorf("StepPath = %s", got)
	}
}

func TestP11NoPanicOfPaths(t *testing.T) {
	good := somePathArgs(35)
	bad := badPrograms()
	for k, n := range oddInts {
		for j, x := range good {
			x.fuel, x.most, x.limit = n, oddInts[(k+j)%len(oddInts)], oddInts[(k+3*j)%len(oddInts)]
			switch j % 5 {
			case 0:
				x.p = bad[(k*len(good)+j)%len(bad)]
			case 1:
				x.p = good[0].p
				paths := badPaths(x.p)
				x.s = paths[(3*k+j)%len(paths)]
			case 2:
				x.in, x.turns = append(x.in, n), append(x.turns, n)
			case 3:
				x.s = impl.Path{Pc: n, Regs: badLeaves(), Mem: []impl.Term{{}}, Stack: []int{n}, In: n, Out: []impl.Term{{W: n}}, Code: n, Steps: n, Cond: []impl.Term{{Op: n, W: n, N: n}}, Turns: []int{n}}
			}
			for _, use := range pathUses() {
				mustNot(t, use.name, func() { use.call(x) })
			}
		}
	}
}
