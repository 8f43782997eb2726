package tests

import (
	"slices"
	"strconv"
	"strings"
	"testing"

	"loop.example/g03219/impl"
)

// A loopArgs has arguments for all functions of loops.
type loopArgs struct {
	p                     impl.Program
	f                     impl.Fact
	l                     []impl.Fact
	regs                  []impl.Term
	words, in             []int
	states                []impl.State
	tests                 [][]int
	pc, fuel, most, limit int
	text                  string
}

func numbersOf(f impl.Fact) string {
	return textOfInts([]int{f.Kind, f.A, f.B, f.N})
}

func factsUse(l []impl.Fact, ok bool) ([]region, string) {
	text := ""
	for _, f := range l {
		text += numbersOf(f) + "|"
	}
	return regionOf(l), text + strconv.FormatBool(ok)
}

func loopUses() []use[loopArgs] {
	return []use[loopArgs]{
		{"FactOk", func(x loopArgs) ([]region, string) { return boolUse(impl.FactOk(x.p, x.f)) }},
		{"FactHolds", func(x loopArgs) ([]region, string) { return boolUse(impl.FactHolds(x.p, x.f, x.words)) }},
		{"FactTerm", func(x loopArgs) ([]region, string) { return termUseOf(impl.FactTerm(x.p, x.f, x.regs)) }},
		{"FormatFact", func(x loopArgs) ([]region, string) { return nil, impl.FormatFact(x.p, x.f) }},
		{"ParseFact", func(x loopArgs) ([]region, string) {
			f, ok := impl.ParseFact(x.p, x.text)
			return nil, numbersOf(f) + strconv.FormatBool(ok)
		}},
		{"CandidateFacts", func(x loopArgs) ([]region, string) { return factsUse(impl.CandidateFacts(x.p, x.states), true) }},
		{"VisitsOf", func(x loopArgs) ([]region, string) {
			states := impl.VisitsOf(x.p, x.in, x.fuel, x.pc)
			l := regionOf(states)
			for _, s := range states {
				l = append(l, stateRegions(s)...)
			}
			return l, textOfStates(states) + strconv.FormatBool(len(states) > 0)
		}},
		{"EntryPaths", func(x loopArgs) ([]region, string) {
			return pathsUseOf(impl.EntryPaths(x.p, x.pc, x.fuel, x.most))
		}},
		{"BodyPaths", func(x loopArgs) ([]region, string) {
			return pathsUseOf(impl.BodyPaths(x.p, x.pc, x.l, x.fuel, x.most))
		}},
		{"BodyPaths with many facts", func(x loopArgs) ([]region, string) {
			return pathsUseOf(impl.BodyPaths(x.p, x.pc, append(slices.Clip(x.l), x.l...), x.fuel, x.most))
		}},
		{"KeepFacts", func(x loopArgs) ([]region, string) {
			return factsUse(impl.KeepFacts(x.p, x.pc, x.l, x.fuel, x.most, x.limit))
		}},
		{"InvariantsOf", func(x loopArgs) ([]region, string) {
			return factsUse(impl.InvariantsOf(x.p, x.pc, x.tests, x.fuel, x.most, x.limit))
		}},
		{"SafeChecks", func(x loopArgs) ([]region, string) {
			return boolUse(impl.SafeChecks(x.p, x.pc, x.l, x.fuel, x.most, x.limit))
		}},
	}
}

// someLoopArgs are arguments that are valid, but for those of every seventh one.
func someLoopArgs(n int) []loopArgs {
	m := maker{state: 467}
	var l []loopArgs
	bad := badPrograms()
	looping, heads := loopingPrograms(n)
	for k, p := range looping {
		facts := m.facts(p.W, 1)
		in := m.inputs(p)
		x := loopArgs{
			p: p, f: facts[0], regs: m.termsOver(p, p.W, 4), words: m.wordsBelow(4, 4, power(p.W)), in: in, states: []impl.State{m.machineState(p), m.machineState(p)}[:1+m.below(2)],
			tests: [][]int{in, m.inputs(p)}, pc: heads[k], fuel: 10 + m.below(50), most: 1 + m.below(20), limit: m.below(100), text: textOfFact(facts[0]),
		}
		x.l = append(m.facts(p.W, m.below(3)), slowCandidates(p.W, slowVisits(p, in, 9, x.pc))...)
		x.l = x.l[:min(len(x.l), 8)]
		switch k % 35 {
		case 6:
			x.p = bad[k/35%len(bad)]
		case 13:
			x.f, x.l = fact(2, 2, 1, 0), append(x.l, fact(3, 0, 0, power(p.W)-1))
		case 20:
			lists := badLists(p.W, p.In)
			x.in = lists[k/35%len(lists)]
			x.tests = append(x.tests, x.in)
			x.words = append(x.words, 0)
		case 27:
			states := badStates(p)
			x.states = append(x.states, states[k*5%len(states)])
			x.regs[k%4] = badLeaves()[k%20]
		case 34:
			x.pc, x.fuel, x.most, x.limit, x.text = -1, 401, 65, 3001, x.text+" "
		}
		l = append(l, x)
	}
	return l
}

// roomyList returns a copy of a list with other elements in spare capacity behind it.
func roomyList[T any](l []T, copyOf func(T) T, spare ...T) []T {
	var out []T
	for _, x := range l {
		out = append(out, copyOf(x))
	}
	return append(out, spare...)[:len(l)]
}

func roomyLoopArgs(x loopArgs) loopArgs {
	x.p = roomyPathArgs(pathArgs{p: x.p}).p
	x.l = roomyList(x.l, func(f impl.Fact) impl.Fact { return f }, fact(1, 0, 0, 0), fact(9, 9, 9, 9))
	x.regs, x.words, x.in = roomyTerms(x.regs), roomyInts(x.words), roomyInts(x.in)
	x.states = roomyList(x.states, roomyState, impl.State{Pc: 77}, impl.State{Regs: []int{1, 2}})
	x.tests = roomyList(x.tests, roomyInts, []int{77}, nil)
	return x
}

// dumpLoopArgs writes all arguments that have memory, with what is in spare capacity.
func dumpLoopArgs(x loopArgs) string {
	parts := []string{dumpProgram(x.p), dump(impl.Term{Kids: x.regs}), dumpInts(x.words), dumpInts(x.in), textOfInts([]int{len(x.l), len(x.states), len(x.tests)})}
	for _, f := range x.l[:cap(x.l)] {
		parts = append(parts, numbersOf(f))
	}
	for _, s := range x.states[:cap(x.states)] {
		parts = append(parts, dumpState(s))
	}
	for _, in := range x.tests[:cap(x.tests)] {
		parts = append(parts, dumpInts(in))
	}
	return strings.Join(parts, "; ")
}

func loopRegions(x loopArgs) []region {
	l := slices.Concat(regionOf(x.p.Code), regionOf(x.l), regionOf(x.regs), regionsOf(x.regs...), regionOf(x.words), regionOf(x.in), regionOf(x.states), regionOf(x.tests))
	for _, s := range x.states[:cap(x.states)] {
		l = append(l, stateRegions(s)...)
	}
	for _, in := range x.tests[:cap(x.tests)] {
		l = append(l, regionOf(in)...)
	}
	return l
}

func TestP11ArgumentsOfLoopsUnchanged(t *testing.T) {
	checkUnchanged(t, loopUses(), someLoopArgs(210), roomyLoopArgs, dumpLoopArgs)
}

func TestP11ResultsOfLoopsAreNew(t *testing.T) {
	results := checkNew(t, loopUses(), someLoopArgs(210), roomyLoopArgs, dumpLoopArgs, loopRegions)
	for _, name := range []string{"FactTerm", "CandidateFacts", "VisitsOf", "EntryPaths", "BodyPaths", "BodyPaths with many facts", "KeepFacts", "InvariantsOf"} {
		if results[name] < 40 {
			t.Errorf("%s has only %d results", name, results[name])
		}
	}
}

// TestP11ChangedResultsOfLoops writes over results, and asks again.
func TestP11ChangedResultsOfLoops(t *testing.T) {
	p := readProgram(t, transfer)
	l := readFacts(t, 3, "r1 is 1, r0 sum r2 5")
	for range 2 {
		kept, _ := impl.KeepFacts(p, 2, l, 20, 8, 200)
		all, _ := impl.InvariantsOf(p, 2, [][]int{nil}, 20, 8, 200)
		visits := impl.VisitsOf(p, nil, 10, 2)
		candidates := impl.CandidateFacts(p, visits)
		if textOfFacts(kept) != "r1 is 1, r0 sum r2 5" || len(all) != 17 || len(candidates) < 18 || textOfStates(visits) != "2|5 1 0 0|0||0||0|2 & 2|4 1 1 0|0||0||0|6 & 2|3 1 2 0|0||0||0|10" {
			t.Errorf("a changed result changes others: %s, %s, %s, %s", textOfFacts(kept), textOfFacts(all), textOfFacts(candidates), textOfStates(visits))
		}
		for _, s := range visits {
			spoil(s.Regs, 77)
			spoil(s.Mem, 77)
		}
		spoil(kept, fact(9, 9, 9, 9))
		spoil(all, fact(9, 9, 9, 9))
		spoil(candidates, fact(9, 9, 9, 9))
		spoil(visits, impl.State{Pc: 77})
	}
	if textOfFacts(l) != "r1 is 1, r0 sum r2 5" {
		t.Errorf("a changed result changes an argument to %s", textOfFacts(l))
	}
}

// TestP11RegistersThatShareMemory gives one term four times, and terms with the same kids.
func TestP11RegistersThatShareMemory(t *testing.T) {
	p := wide(3)
	kids := []impl.Term{variable(3, "a"), variable(3, "b")}
	u, v := impl.Term{Op: impl.OpAdd, W: 3, Kids: kids}, impl.Term{Op: impl.OpSub, W: 3, Kids: kids}
	regs := []impl.Term{u, v, u, v}
	before := dump(impl.Term{Kids: regs})
	for _, text := range []string{"r0 is 5", "r0 same r1", "r0 same r2", "r1 most 5", "r2 bit 0 1", "r0 sum r1 5", "r0 sum r2 5", "r0 order r3", "r3 order r2"} {
		f := readFacts(t, 3, text)[0]
		got, ok := impl.FactTerm(p, f, regs)
		if want := slowFactTerm(3, f, regs); !ok || !alike(got, want) || dump(impl.Term{Kids: regs}) != before {
			t.Errorf("FactTerm of %s = %s, %v, want %s", text, textOf(got), ok, textOf(want))
		}
		mustBeNew(t, "FactTerm of "+text, regionsOf(got), append(regionsOf(regs...), regionOf(regs)...))
	}
	// Paths that have the same terms in registers, cells and conditions.
	p = readProgram(t, "3 2 1|in r0|mul r0 r0|move r1 r0|store r3 r0|zero r0 6|check r1|move r2 r1|jump 1")
	for name, call := range map[string]func() ([]impl.Path, bool){
		"EntryPaths": func() ([]impl.Path, bool) { return impl.EntryPaths(p, 6, 30, 8) },
		"BodyPaths": func() ([]impl.Path, bool) {
			return impl.BodyPaths(p, 6, readFacts(t, 3, "r3 is 0, r3 is 0, r0 same r1, r0 same r1"), 30, 8)
		},
	} {
		l, ok := call()
		if !ok || len(l) < 3 {
			t.Errorf("%s = %s, %v", name, textOfPaths(l), ok)
		}
		result, _ := pathsUseOf(l, ok)
		mustBeNew(t, name, result, regionOf(p.Code))
	}
}

func TestP11NilAndEmptyOfLoops(t *testing.T) {
	p := readProgram(t, "3 1 0|set r1 1|jump 1")
	for _, none := range [][]int{nil, {}} {
		if got := textOfStates(impl.VisitsOf(p, none, 1, 1)); got != "1|0 1 0 0|0||0||0|1" {
			t.Errorf("VisitsOf = %s", got)
		}
		s := slowStart(p)
		s.Stack, s.Out = none, none
		if got := impl.CandidateFacts(p, []impl.State{s}); len(got) != 4+6+4+12+6+12 {
			t.Errorf("CandidateFacts = %s", textOfFacts(got))
		}
		if got, ok := impl.InvariantsOf(p, 1, [][]int{none}, 20, 8, 200); !ok || len(got) == 0 {
			t.Errorf("InvariantsOf = %s, %v", textOfFacts(got), ok)
		}
		if impl.FactHolds(p, fact(1, 0, 0, 0), none) {
			t.Error("FactHolds of no words = true")
		}
	}
	for _, none := range [][]impl.Fact{nil, {}} {
		if got, ok := impl.BodyPaths(p, 1, none, 1, 1); !ok || textOfPaths(got) != "1|r0:3, r1:3, r2:3, r3:3|m0:3||0||0|1||" {
			t.Errorf("BodyPaths = %s, %v", textOfPaths(got), ok)
		}
		if got, ok := impl.KeepFacts(p, 1, none, 1, 1, 0); !ok || len(got) != 0 {
			t.Errorf("KeepFacts = %s, %v", textOfFacts(got), ok)
		}
		if !impl.SafeChecks(p, 1, none, 1, 1, 0) {
			t.Error("SafeChecks = false")
		}
	}
	if got := impl.CandidateFacts(p, []impl.State{}); len(got) != 0 {
		t.Errorf("CandidateFacts of no states = %s", textOfFacts(got))
	}
	if got, ok := impl.InvariantsOf(p, 1, [][]int{}, 20, 8, 200); !ok || len(got) != 0 {
		t.Errorf("InvariantsOf of no tests = %s, %v", textOfFacts(got), ok)
	}
	for _, none := range [][]impl.Term{nil, {}} {
		mustHaveNoFactTerm(t, p, fact(1, 0, 0, 0), none)
		// Terms with empty lists of kids are equal to those with nil.
		zero := impl.Term{Op: impl.OpConst, W: 3, Kids: none}
		if got, ok := impl.FactTerm(p, fact(2, 0, 1, 0), repeatedTerm(zero, 4)); !ok || textOf(got) != "1:1" {
			t.Errorf("FactTerm = %s, %v", textOf(got), ok)
		}
	}
}

func TestP11NoPanicOfLoops(t *testing.T) {
	good := someLoopArgs(21)
	bad := badPrograms()
	for k, n := range oddInts {
		for j, x := range good {
			odd := func(step int) int { return oddInts[(k+step*j)%len(oddInts)] }
			x.pc, x.fuel, x.most, x.limit = n, odd(1), odd(3), odd(5)
			switch j % 7 {
			case 0:
				x.p = bad[(k*len(good)+j)%len(bad)]
			case 1:
				x.f = fact(j%8, n, odd(2), odd(4))
				x.l = []impl.Fact{x.f, fact(n, 0, 1, 2)}
			case 2:
				x.in, x.words = append(x.in, n), append(x.words[:3:3], n)
				x.tests = append(x.tests, x.in)
			case 3:
				leaves := badLeaves()
				x.regs[j%4] = leaves[(3*k+j)%len(leaves)]
				x.states = badStates(x.p)[:(k+1)*3]
			case 4:
				x.regs, x.l = badLeaves(), badFacts(x.p.W)
				x.states = []impl.State{{Pc: n, Regs: []int{n}, Code: n, Steps: n}}
			case 5:
				// All numbers but one are as they should be.
				x.pc, x.fuel, x.most, x.limit = 0, 20, 8, 20
				numbers := []*int{&x.pc, &x.fuel, &x.most, &x.limit}
				*numbers[k%4] = n
			}
			x.text = oddTexts()[(7*k+j)%400]
			for _, use := range loopUses() {
				mustNot(t, use.name, func() { use.call(x) })
			}
		}
	}
}
