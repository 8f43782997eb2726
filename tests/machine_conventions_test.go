package tests

import (
	"slices"
	"strconv"
	"strings"
	"testing"

	"loop.example/g03219/impl"
)

// A machineArgs has arguments for all functions of the machine.
type machineArgs struct {
	p          impl.Program
	s, other   impl.State
	in         []int
	i          impl.Ins
	fuel, pc   int
	w, size    int
	text, line string
}

func stateRegions(s impl.State) []region {
	return slices.Concat(regionOf(s.Regs), regionOf(s.Mem), regionOf(s.Stack), regionOf(s.Out))
}

func stateUse(s impl.State) ([]region, string) {
	return stateRegions(s), textOfState(s)
}

func placesUse(l []int) ([]region, string) {
	return regionOf(l), textOfInts(l)
}

func boolUse(is bool) ([]region, string) {
	return nil, strconv.FormatBool(is)
}

func machineUses() []use[machineArgs] {
	return []use[machineArgs]{
		{"ProgramOk", func(x machineArgs) ([]region, string) { return boolUse(impl.ProgramOk(x.p)) }},
		{"InputsOk", func(x machineArgs) ([]region, string) { return boolUse(impl.InputsOk(x.p, x.in)) }},
		{"AllInputs", func(x machineArgs) ([]region, string) {
			if x.p.W*x.p.In > 8 {
				// There are so many that comparing their memory takes long.
				return boolUse(len(impl.AllInputs(x.p)) > 0)
			}
			all := impl.AllInputs(x.p)
			l, texts := regionOf(all), []string{}
			for _, in := range all {
				l, texts = append(l, regionOf(in)...), append(texts, textOfInts(in))
			}
			return l, strings.Join(texts, "|")
		}},
		{"NewState", func(x machineArgs) ([]region, string) { return stateUse(impl.NewState(x.p)) }},
		{"StateOk", func(x machineArgs) ([]region, string) { return boolUse(impl.StateOk(x.p, x.s)) }},
		{"StepState", func(x machineArgs) ([]region, string) { return stateUse(impl.StepState(x.p, x.s, x.in)) }},
		{"StepState where nothing happens", func(x machineArgs) ([]region, string) {
			x.s.Code = impl.CodeHalt
			return stateUse(impl.StepState(x.p, x.s, x.in))
		}},
		{"RunProgram", func(x machineArgs) ([]region, string) { return stateUse(impl.RunProgram(x.p, x.in, x.fuel)) }},
		{"TraceOf", func(x machineArgs) ([]region, string) { return placesUse(impl.TraceOf(x.p, x.in, x.fuel)) }},
		{"SameRun", func(x machineArgs) ([]region, string) { return boolUse(impl.SameRun(x.s, x.other)) }},
		{"CodeName", func(x machineArgs) ([]region, string) { return nil, impl.CodeName(x.pc) }},
		{"NextOf", func(x machineArgs) ([]region, string) { return placesUse(impl.NextOf(x.p, x.pc)) }},
		{"ReachedOf", func(x machineArgs) ([]region, string) { return placesUse(impl.ReachedOf(x.p)) }},
		{"LoopHeads", func(x machineArgs) ([]region, string) { return placesUse(impl.LoopHeads(x.p)) }},
		{"FormatIns", func(x machineArgs) ([]region, string) { return nil, impl.FormatIns(x.i, x.w, x.size) }},
		{"ParseIns", func(x machineArgs) ([]region, string) {
			i, ok := impl.ParseIns(x.line, x.w, x.size)
			return nil, textOfInts([]int{i.Op, i.A, i.B, i.C}) + strconv.FormatBool(ok)
		}},
		{"FormatProgram", func(x machineArgs) ([]region, string) { return nil, impl.FormatProgram(x.p) }},
		{"ParseProgram", func(x machineArgs) ([]region, string) {
			p, ok := impl.ParseProgram(x.text)
			return regionOf(p.Code), dumpProgram(impl.Program{W: p.W, Mem: p.Mem, In: p.In, Code: slices.Clip(p.Code)}) + strconv.FormatBool(ok)
		}},
	}
}

// someMachineArgs are arguments that are valid, but for those of every seventh one.
func someMachineArgs(n int) []machineArgs {
	m := maker{state: 59}
	var l []machineArgs
	bad := badPrograms()
	for k, p := range somePrograms(n) {
		x := machineArgs{p: p, s: m.machineState(p), other: m.machineState(p), in: m.inputs(p), fuel: m.below(401), pc: m.below(len(p.Code) + 1), w: p.W, size: len(p.Code)}
		x.i = p.Code[m.below(len(p.Code))]
		x.text, x.line = textOfProgram(p), textOfIns(x.i)
		switch k % 28 {
		case 6:
			x.p = bad[k/28%len(bad)]
		case 13:
			x.s = badStates(p)[m.below(40)]
		case 20:
			lists := badLists(p.W, p.In)
			x.in = lists[k/28%len(lists)]
		case 27:
			x.i.Op, x.fuel, x.pc, x.w, x.text, x.line = 15, 401, -1, 9, x.text+"\n", x.line+" "
		}
		l = append(l, x)
	}
	return l
}

func roomyState(s impl.State) impl.State {
	s.Regs, s.Mem, s.Stack, s.Out = roomyInts(s.Regs), roomyInts(s.Mem), roomyInts(s.Stack), roomyInts(s.Out)
	return s
}

func roomyMachineArgs(x machineArgs) machineArgs {
	x.p.Code = append(slices.Clone(x.p.Code), ins(14, 0, 0, 0), ins(99, 1, 2, 3))[:len(x.p.Code)]
	x.s, x.other, x.in = roomyState(x.s), roomyState(x.other), roomyInts(x.in)
	return x
}

func dumpState(s impl.State) string {
	return strings.Join([]string{textOfInts([]int{s.Pc, s.In, s.Code, s.Steps}), dumpInts(s.Regs), dumpInts(s.Mem), dumpInts(s.Stack), dumpInts(s.Out)}, " ")
}

// dumpMachineArgs writes all arguments that have memory, with what is in spare capacity.
func dumpMachineArgs(x machineArgs) string {
	return strings.Join([]string{dumpProgram(x.p), dumpState(x.s), dumpState(x.other), dumpInts(x.in)}, "; ")
}

func TestP11ArgumentsOfMachinesUnchanged(t *testing.T) {
	checkUnchanged(t, machineUses(), someMachineArgs(800), roomyMachineArgs, dumpMachineArgs)
}

func TestP11MachinesAreNew(t *testing.T) {
	for _, plain := range someMachineArgs(400) {
		x := roomyMachineArgs(plain)
		arguments := slices.Concat(regionOf(x.p.Code), stateRegions(x.s), stateRegions(x.other), regionOf(x.in))
		for _, use := range machineUses() {
			result, _ := use.call(x)
			mustBeNew(t, use.name+" of "+dumpProgram(x.p), result, arguments)
		}
	}
}

// TestP11StatesThatShareMemory gives a state all of whose lists are one, and changes results.
func TestP11StatesThatShareMemory(t *testing.T) {
	p := readProgram(t, "3 4 3|not r0|store r1 r0|out r0|call 0")
	words := []int{1, 2, 3, 4, 5, 6}
	s := impl.State{Regs: words[:4], Mem: words[:4], Stack: words[:2], Out: words[:4]}
	for k, want := range []string{
		"1|6 2 3 4|1 2 3 4|1 2|0|1 2 3 4|0|1", "2|1 2 3 4|1 2 1 4|1 2|0|1 2 3 4|0|1", "3|1 2 3 4|1 2 3 4|1 2|0|1 2 3 4 1|0|1", "0|1 2 3 4|1 2 3 4|1 2 4|0|1 2 3 4|0|1", "4|1 2 3 4|1 2 3 4|1 2|0|1 2 3 4|2|0",
	} {
		s.Pc = k
		got := impl.StepState(p, s, words[:3])
		if textOfState(got) != want || textOfInts(words) != "1 2 3 4 5 6" {
			t.Errorf("StepState at %d = %s, and the words are %v", k, textOfState(got), words)
		}
		mustBeNew(t, "StepState", stateRegions(got), regionOf(words))
		for _, l := range [][]int{got.Regs, got.Mem, got.Stack, got.Out} {
			spoil(l, 77)
		}
		if again := textOfState(impl.StepState(p, s, words[:3])); again != want || textOfInts(words) != "1 2 3 4 5 6" {
			t.Errorf("StepState at %d after a changed result = %s, and the words are %v", k, again, words)
		}
	}
	all := impl.AllInputs(p)
	spoil(all[0], 9)
	spoil(all[1][:1], 9)
	if textOfInts(all[2]) != "0 0 2" || textOfInts(impl.AllInputs(p)[0]) != "0 0 0" {
		t.Errorf("AllInputs after a changed result: %v, %v", all[2], impl.AllInputs(p)[0])
	}
	first, _ := impl.ParseProgram("machine 2 1 0\nhalt\n")
	spoil(first.Code, ins(9, 9, 9, 9))
	if second, ok := impl.ParseProgram("machine 2 1 0\nhalt\n"); !ok || textOfProgram(second) != "machine 2 1 0\nhalt\n" {
		t.Errorf("ParseProgram after a changed result = %s, %v", dumpProgram(second), ok)
	}
}

func TestP11NilAndEmptyOfMachines(t *testing.T) {
	p := readProgram(t, "3 2 0|out r0|call 0")
	some := impl.State{Regs: make([]int, 4), Mem: make([]int, 2)}
	for _, none := range [][]int{nil, {}} {
		s := copyOfState(some)
		s.Stack, s.Out = none, none
		if !impl.InputsOk(p, none) || !impl.StateOk(p, s) || !impl.SameRun(some, s) {
			t.Error("nil and empty lists differ")
		}
		if got := textOfState(impl.StepState(p, s, none)); got != "1|0 0 0 0|0 0||0|0|0|1" {
			t.Errorf("StepState = %s", got)
		}
		if got := textOfState(impl.RunProgram(p, none, 2)); got != "0|0 0 0 0|0 0|2|0|0|0|2" {
			t.Errorf("RunProgram = %s", got)
		}
		if got := textOfInts(impl.TraceOf(p, none, 2)); got != "0 1" {
			t.Errorf("TraceOf = %s", got)
		}
	}
	all := impl.AllInputs(p)
	if len(all) != 1 || len(all[0]) != 0 {
		t.Errorf("AllInputs without inputs = %v", all)
	}
	for _, code := range [][]impl.Ins{nil, {}} {
		bad := impl.Program{W: 3, Mem: 2, Code: code}
		if impl.ProgramOk(bad) || impl.FormatProgram(bad) != "" || len(impl.ReachedOf(bad)) != 0 || len(impl.AllInputs(bad)) != 0 {
			t.Error("a program without instructions is taken for valid")
		}
	}
}

func TestP11NoPanicOfMachines(t *testing.T) {
	good := someMachineArgs(40)
	bad := badPrograms()
	for k, n := range oddInts {
		for j, x := range good {
			x.fuel, x.pc, x.w, x.size = n, n, n, oddInts[(k+j)%len(oddInts)]
			x.i = ins(1+(k+j)%15, n, oddInts[(k+3*j)%len(oddInts)], oddInts[(3*k+j)%len(oddInts)])
			switch j % 5 {
			case 0:
				x.p = bad[(k*len(good)+j)%len(bad)]
			case 1:
				states := badStates(x.p)
				x.s, x.other = states[(3*k+j)%len(states)], states[(k+5*j)%len(states)]
			case 2:
				x.in = append(x.in, n)
			case 3:
				x.s = impl.State{Pc: n, Regs: []int{n}, Mem: []int{n, n}, Stack: []int{n}, In: n, Out: []int{n}, Code: n, Steps: n}
			}
			for _, use := range machineUses() {
				mustNot(t, use.name, func() { use.call(x) })
			}
		}
	}
	for _, s := range oddTexts() {
		mustNot(t, "a function of texts", func() {
			for _, n := range oddInts {
				impl.ParseIns(s, n, 3)
				impl.ParseIns("jump "+s, 3, n)
			}
			impl.ParseProgram("machine 3 2 1\n" + s)
			impl.ParseProgram("machine " + s)
		})
	}
}
