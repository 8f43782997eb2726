package tests

import (
	"slices"
	"strconv"
	"strings"
	"testing"

	"loop.example/g03219/impl"
)

// A mergeArgs has arguments for all functions of merged paths and summaries.
type mergeArgs struct {
	p                    impl.Program
	a, b                 impl.Path
	l                    []impl.Path
	in                   []int
	entry, fuel, most, k int
}

func termUseOf(u impl.Term, ok bool) ([]region, string) {
	return regionsOf(u), textOf(u) + strconv.FormatBool(ok)
}

func mergeUses() []use[mergeArgs] {
	return []use[mergeArgs]{
		{"MergePaths", func(x mergeArgs) ([]region, string) { return pathUseOf(impl.MergePaths(x.p, x.a, x.b)) }},
		{"MergePaths of a path and itself", func(x mergeArgs) ([]region, string) { return pathUseOf(impl.MergePaths(x.p, x.a, x.a)) }},
		{"ExploreMerged", func(x mergeArgs) ([]region, string) {
			return pathsUseOf(impl.ExploreMerged(x.p, x.fuel, x.most))
		}},
		{"SummaryOf", func(x mergeArgs) ([]region, string) {
			return pathsUseOf(impl.SummaryOf(x.p, x.entry, x.fuel, x.most))
		}},
		{"ApplySummary", func(x mergeArgs) ([]region, string) { return pathsUseOf(impl.ApplySummary(x.p, x.a, x.l)) }},
		{"ApplySummary of two paths", func(x mergeArgs) ([]region, string) {
			return pathsUseOf(impl.ApplySummary(x.p, x.a, append(slices.Clip(x.l), x.l...)))
		}},
		{"ExploreSummed", func(x mergeArgs) ([]region, string) {
			return pathsUseOf(impl.ExploreSummed(x.p, x.fuel, x.most))
		}},
		{"OutcomeTerm", func(x mergeArgs) ([]region, string) { return termUseOf(impl.OutcomeTerm(x.p, x.l, x.k)) }},
		{"OutcomeTerm of one path", func(x mergeArgs) ([]region, string) {
			return termUseOf(impl.OutcomeTerm(x.p, []impl.Path{x.a}, x.k))
		}},
		{"EndsFor", func(x mergeArgs) ([]region, string) {
			l := impl.EndsFor(x.p, append(slices.Clip(x.l), x.a, x.b), x.in)
			return regionOf(l), textOfInts(l)
		}},
	}
}

// someMergeArgs are arguments that are valid, but for those of every seventh one.
func someMergeArgs(n int) []mergeArgs {
	m := maker{state: 401}
	var l []mergeArgs
	bad := badPrograms()
	for k, p := range callingPrograms(n) {
		a, b := m.relatives(p)
		x := mergeArgs{p: p, a: a, b: b, l: m.elements(p), in: m.inputs(p), entry: m.below(len(p.Code) + 1), fuel: m.below(25), most: 1 + m.below(30), k: m.below(7) - 1}
		if k%2 == 0 {
			x.a, x.l = m.callArgs(p)
			x.b = x.a
		}
		switch k % 28 {
		case 6:
			x.p = bad[k/28%len(bad)]
		case 13:
			paths := badPaths(p)
			x.a = paths[k*5%len(paths)]
		case 20:
			paths := badPaths(p)
			x.b, x.l = paths[k*7%len(paths)], append(x.l, paths[k*3%len(paths)])
		case 27:
			x.in, x.entry, x.fuel, x.most, x.k = []int{-1}, 41, 401, 65, 6
		}
		l = append(l, x)
	}
	return l
}

func roomyPath(s impl.Path) impl.Path {
	return roomyPathArgs(pathArgs{s: s}).s
}

func roomyMergeArgs(x mergeArgs) mergeArgs {
	x.p = roomyPathArgs(pathArgs{p: x.p}).p
	x.a, x.b, x.in = roomyPath(x.a), roomyPath(x.b), roomyInts(x.in)
	l := make([]impl.Path, 0, len(x.l)+2)
	for _, s := range x.l {
		l = append(l, roomyPath(s))
	}
	n := len(l)
	x.l = append(l, x.a, impl.Path{Pc: 77})[:n]
	return x
}

// dumpMergeArgs writes all arguments that have memory, with what is in spare capacity.
func dumpMergeArgs(x mergeArgs) string {
	parts := []string{dumpProgram(x.p), dumpPath(x.a), dumpPath(x.b), dumpInts(x.in), strconv.Itoa(len(x.l))}
	for _, s := range x.l[:cap(x.l)] {
		parts = append(parts, dumpPath(s))
	}
	return strings.Join(parts, "; ")
}

func mergeRegions(x mergeArgs) []region {
	l := slices.Concat(regionOf(x.p.Code), pathRegions(x.a), pathRegions(x.b), regionOf(x.in), regionOf(x.l))
	for _, s := range x.l[:cap(x.l)] {
		l = append(l, pathRegions(s)...)
	}
	return l
}

func TestP11ArgumentsOfMergingUnchanged(t *testing.T) {
	checkUnchanged(t, mergeUses(), someMergeArgs(500), roomyMergeArgs, dumpMergeArgs)
}

func TestP11MergedPathsAreNew(t *testing.T) {
	results := checkNew(t, mergeUses(), someMergeArgs(500), roomyMergeArgs, dumpMergeArgs, mergeRegions)
	for _, use := range mergeUses() {
		if results[use.name] < 40 && use.name != "EndsFor" {
			t.Errorf("%s has only %d results", use.name, results[use.name])
		}
	}
}

// TestP11PathsThatShareMemoryMerged gives paths whose lists of terms are one, and elements whose terms stand in several places of the result.
func TestP11PathsThatShareMemoryMerged(t *testing.T) {
	p := readProgram(t, "3 4 3|call 2|halt|ret")
	kids := []impl.Term{variable(3, "i0"), variable(3, "r1")}
	u, v := impl.Term{Op: impl.OpAdd, W: 3, Kids: kids}, impl.Term{Op: impl.OpSub, W: 3, Kids: kids}
	terms := []impl.Term{u, v, u, constant(3, 2)}
	ints := []int{1, 0, 1}
	conds := []impl.Term{{Op: impl.OpLess, W: 1, Kids: terms[:2]}, {Op: impl.OpEq, W: 1, Kids: kids}}
	s := impl.Path{Regs: terms, Mem: terms, Out: terms, Stack: ints[:2], Turns: ints[:2], Cond: conds}
	other := changedPath(s, func(s *impl.Path) { s.Cond = conds[1:]; s.Turns = ints[:1]; s.Regs = []impl.Term{v, u, v, u} })
	before := dumpPath(s) + dumpPath(other)
	arguments := slices.Concat(pathRegions(s), pathRegions(other), regionOf(ints), regionOf(conds), regionOf(terms))
	for name, use := range map[string]func() ([]region, string){
		"MergePaths":                      func() ([]region, string) { return pathUseOf(impl.MergePaths(p, s, other)) },
		"MergePaths of a path and itself": func() ([]region, string) { return pathUseOf(impl.MergePaths(p, s, s)) },
		"ApplySummary":                    func() ([]region, string) { return pathsUseOf(impl.ApplySummary(p, s, []impl.Path{s, other, s})) },
		"ApplySummary of halts": func() ([]region, string) {
			halted := changedPath(s, func(s *impl.Path) { s.Code = impl.CodeHalt })
			return pathsUseOf(impl.ApplySummary(p, s, []impl.Path{halted, halted}))
		},
		"OutcomeTerm":             func() ([]region, string) { return termUseOf(impl.OutcomeTerm(p, []impl.Path{s, other, s}, 1)) },
		"OutcomeTerm of one path": func() ([]region, string) { return termUseOf(impl.OutcomeTerm(p, []impl.Path{s}, 1)) },
	} {
		result, text := use()
		if name != "ApplySummary" && !strings.HasSuffix(text, "true") {
			t.Errorf("%s = %s", name, text)
		}
		mustBeNew(t, name, result, arguments)
		if dumpPath(s)+dumpPath(other) != before {
			t.Errorf("%s changes an argument", name)
		}
	}
}

// TestP11MergedEndsShareNothing has ends whose paths come from one another, with lists in common.
func TestP11MergedEndsShareNothing(t *testing.T) {
	for _, text := range []string{
		"3 2 2|in r0|mul r0 r0|move r1 r0|out r0|call 6|halt|out r1|zero r0 9|check r0|ret", "3 2 2|in r0|mul r0 r0|out r0|zero r0 5|in r1|call 7|halt|load r1 r0|mul r1 r0|ret", "3 2 2|in r0|mul r0 r0|out r0|move r1 r0|check r0|div r2 r0|load r3 r0|call 9|halt|store r0 r1|mul r1 r1|ret",
	} {
		p := readProgram(t, text)
		for name, explore := range map[string]func(impl.Program, int, int) ([]impl.Path, bool){"ExploreMerged": impl.ExploreMerged, "ExploreSummed": impl.ExploreSummed} {
			for _, fuel := range []int{4, 7, 30} {
				l, ok := explore(p, fuel, 64)
				if !ok || len(l) == 0 {
					t.Errorf("%s of %s fails", name, text)
				}
				result, _ := pathsUseOf(l, ok)
				mustBeNew(t, name+" of "+text, result, regionOf(p.Code))
			}
		}
	}
	p := readProgram(t, "3 2 2|mul r0 r1|move r1 r0|store r3 r0|zero r0 4|check r0|ret")
	l, ok := impl.SummaryOf(p, 0, 30, 64)
	if !ok || len(l) < 3 {
		t.Fatalf("SummaryOf = %s, %v", textOfPaths(l), ok)
	}
	result, _ := pathsUseOf(l, ok)
	mustBeNew(t, "SummaryOf", result, regionOf(p.Code))
}

func TestP11NilAndEmptyOfMerging(t *testing.T) {
	p := readProgram(t, "3 2 0|call 2|halt|ret")
	for _, none := range [][]int{nil, {}} {
		for _, no := range [][]impl.Term{nil, {}} {
			s, e := slowStartPath(p), unknownState(p, 2)
			plain := s
			s.Stack, s.Turns, s.Out, s.Cond = none, none, no, no
			e.Stack, e.Turns, e.Out, e.Cond = none, none, no, no
			for _, pair := range [][2]impl.Path{{s, plain}, {plain, s}, {s, s}} {
				if got, ok := impl.MergePaths(p, pair[0], pair[1]); !ok || textOfPath(got) != "0|3:0, 3:0, 3:0, 3:0|3:0, 3:0||0||0|0||" {
					t.Errorf("MergePaths = %s, %v", textOfPath(got), ok)
				}
			}
			if got, ok := impl.ApplySummary(p, s, []impl.Path{e}); !ok || textOfPaths(got) != "1|3:0, 3:0, 3:0, 3:0|3:0, 3:0||0||0|2||" {
				t.Errorf("ApplySummary = %s, %v", textOfPaths(got), ok)
			}
			if got, ok := impl.OutcomeTerm(p, []impl.Path{s, e}, 0); !ok || textOf(got) != "3:0" {
				t.Errorf("OutcomeTerm = %s, %v", textOf(got), ok)
			}
			if got := impl.EndsFor(p, []impl.Path{s, e}, none); textOfInts(got) != "0 1" {
				t.Errorf("EndsFor = %v", got)
			}
		}
	}
	for _, none := range [][]impl.Path{nil, {}} {
		if got, ok := impl.ApplySummary(p, slowStartPath(p), none); !ok || len(got) != 0 {
			t.Errorf("ApplySummary of no elements = %s, %v", textOfPaths(got), ok)
		}
		if got, ok := impl.OutcomeTerm(p, none, 0); ok || !isZero(got) {
			t.Errorf("OutcomeTerm of no paths = %s, %v", textOf(got), ok)
		}
		if got := impl.EndsFor(p, none, nil); len(got) != 0 {
			t.Errorf("EndsFor of no paths = %v", got)
		}
	}
	// Terms with empty lists of kids are equal to those with nil.
	s := slowStartPath(p)
	s.Regs = repeatedTerm(impl.Term{Op: impl.OpConst, W: 3, Kids: []impl.Term{}}, 4)
	if got, ok := impl.MergePaths(p, s, slowStartPath(p)); !ok || textOfPath(got) != "0|3:0, 3:0, 3:0, 3:0|3:0, 3:0||0||0|0||" {
		t.Errorf("MergePaths = %s, %v", textOfPath(got), ok)
	}
}

func TestP11NoPanicOfMerging(t *testing.T) {
	good := someMergeArgs(35)
	bad := badPrograms()
	for k, n := range oddInts {
		for j, x := range good {
			x.entry, x.fuel, x.most, x.k = n, oddInts[(k+j)%len(oddInts)], oddInts[(k+3*j)%len(oddInts)], oddInts[(k+5*j)%len(oddInts)]
			odd := impl.Path{Pc: n, Regs: badLeaves(), Mem: []impl.Term{{}}, Stack: []int{n}, In: n, Out: []impl.Term{{W: n}}, Code: n, Steps: n, Cond: []impl.Term{{Op: n, W: n, N: n}}, Turns: []int{n}}
			switch j % 6 {
			case 0:
				x.p = bad[(k*len(good)+j)%len(bad)]
			case 1:
				x.p = good[0].p
				paths := badPaths(x.p)
				x.a, x.b, x.l = paths[(3*k+j)%len(paths)], paths[(5*k+j)%len(paths)], paths
			case 2:
				x.in = append(x.in, n)
			case 3:
				x.a, x.l = odd, []impl.Path{odd}
			case 4:
				x.b, x.l = odd, append(x.l, odd)
			}
			for _, use := range mergeUses() {
				mustNot(t, use.name, func() { use.call(x) })
			}
		}
	}
}
