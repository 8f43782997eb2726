package tests

import (
	"slices"
	"strconv"
	"testing"

	"loop.example/g03219/impl"
)

func TestP1MachineConstants(t *testing.T) {
	got := []int{impl.Regs, impl.MaxCode, impl.MaxMem, impl.MaxIn, impl.MaxOut, impl.MaxCalls, impl.MaxFuel}
	if textOfInts(got) != "4 40 6 3 6 3 400" {
		t.Errorf("the limits are %v", got)
	}
	got = []int{
		impl.InsSet, impl.InsMove, impl.InsOp, impl.InsNot, impl.InsIn, impl.InsOut, impl.InsLoad,
		impl.InsStore, impl.InsJump, impl.InsZero, impl.InsCall, impl.InsRet, impl.InsCheck, impl.InsHalt,
	}
	if textOfInts(got) != "1 2 3 4 5 6 7 8 9 10 11 12 13 14" {
		t.Errorf("the instructions are %v", got)
	}
	got = []int{
		impl.CodeRun, impl.CodeHalt, impl.CodeEnd, impl.CodeInput, impl.CodeOutput,
		impl.CodeAddress, impl.CodeDivision, impl.CodeStack, impl.CodeCheck, impl.CodeBig,
	}
	if textOfInts(got) != "0 1 2 3 4 5 6 7 8 9" {
		t.Errorf("the codes are %v", got)
	}
}

// TestP1ProgramOkOfSizes tries the numbers of a program at their limits.
func TestP1ProgramOkOfSizes(t *testing.T) {
	halts := slices.Repeat([]impl.Ins{ins(14, 0, 0, 0)}, 60)
	for w := -1; w <= 17; w++ {
		for mem := -1; mem <= 8; mem++ {
			for in := -1; in <= 5; in++ {
				for _, size := range []int{0, 1, 2, 39, 40, 41, 60} {
					want := w >= 2 && w <= 8 && mem >= 1 && mem <= 6 && mem < 1<<max(w, 0) && in >= 0 && in <= 3 && size >= 1 && size <= 40
					if got := impl.ProgramOk(impl.Program{W: w, Mem: mem, In: in, Code: halts[:size]}); got != want {
						t.Errorf("ProgramOk of W %d, Mem %d, In %d and %d instructions = %v", w, mem, in, size, got)
					}
				}
			}
		}
	}
}

// TestP1ProgramOkOfIns tries each instruction with its operands at their limits and outside.
func TestP1ProgramOkOfIns(t *testing.T) {
	values := slices.Concat([]int{5, 6, 7, 8, 254, 256}, oddInts)
	for _, w := range []int{2, 3, 8} {
		for _, size := range []int{1, 2, 7, 40} {
			p := impl.Program{W: w, Mem: 1, Code: slices.Repeat([]impl.Ins{ins(12, 0, 0, 0)}, size)}
			last := &p.Code[size-1]
			for op := -1; op <= 17; op++ {
				for _, n := range append([]int{size - 1, size, size + 1, power(w) - 1, power(w)}, values...) {
					for _, i := range []impl.Ins{
						ins(op, n, 0, 0), ins(op, 0, n, 0), ins(op, 0, 0, n), ins(op, n, 0, 3), ins(op, 0, n, 3), ins(op, 3, n, 16), ins(op, n, 3, 16), ins(op, n, n, n), ins(op, 1, 1, n), ins(n, 0, 0, 0),
					} {
						*last = i
						if got := impl.ProgramOk(p); got != fits(i, w, size) {
							t.Errorf("ProgramOk with %v and W %d as the last of %d instructions = %v", i, w, size, got)
						}
					}
				}
			}
		}
	}
}

func TestP1ProgramOk(t *testing.T) {
	for _, p := range somePrograms(300) {
		if !impl.ProgramOk(p) {
			t.Errorf("ProgramOk(%s) = false", dumpProgram(p))
		}
	}
	for _, p := range badPrograms() {
		if impl.ProgramOk(p) {
			t.Errorf("ProgramOk(%.300s) = true", dumpProgram(p))
		}
	}
	// Each instruction is looked at.
	p := readProgram(t, "3 2 1|in r0|set r1 3|add r0 r1|zero r0 6|out r0|halt|check r0")
	for k := range p.Code {
		bad := changed(p, func(p *impl.Program) { p.Code[k].C = 17 })
		if impl.ProgramOk(bad) {
			t.Errorf("ProgramOk with a bad instruction at %d = true", k)
		}
	}
}

func TestP1InputsOk(t *testing.T) {
	for _, text := range []string{"2 1 0|halt", "2 3 1|halt", "3 2 2|halt", "8 6 3|halt"} {
		p := readProgram(t, text)
		for _, word := range []int{0, 1, power(p.W) - 1} {
			if in := repeated(word, p.In); !impl.InputsOk(p, in) {
				t.Errorf("InputsOk(%q, %v) = false", text, in)
			}
		}
		for _, in := range badLists(p.W, p.In) {
			if impl.InputsOk(p, in) {
				t.Errorf("InputsOk(%q, %.100s) = true", text, textOfInts(in))
			}
		}
	}
	for _, p := range badPrograms() {
		for n := range 4 {
			if impl.InputsOk(p, make([]int, n)) {
				t.Errorf("InputsOk(%.300s) of %d inputs = true", dumpProgram(p), n)
			}
		}
	}
}

func TestP1AllInputs(t *testing.T) {
	for w := 2; w <= 8; w++ {
		for n := 0; n <= 3; n++ {
			got := impl.AllInputs(impl.Program{W: w, Mem: 1, In: n, Code: []impl.Ins{ins(14, 0, 0, 0)}})
			count := power(w * n)
			if count > 4096 {
				if len(got) != 0 {
					t.Errorf("AllInputs of %d inputs of %d bits has %d lists", n, w, len(got))
				}
				continue
			}
			if len(got) != count {
				t.Errorf("AllInputs of %d inputs of %d bits has %d lists", n, w, len(got))
				continue
			}
			for k, in := range got {
				want := make([]int, n)
				for i := range n {
					want[i] = k / power(w*(n-1-i)) % power(w)
				}
				if !slices.Equal(in, want) {
					t.Errorf("list %d of AllInputs of %d inputs of %d bits is %v", k, n, w, in)
				}
			}
		}
	}
	for _, p := range badPrograms() {
		if got := impl.AllInputs(p); len(got) != 0 {
			t.Errorf("AllInputs(%.300s) has %d lists", dumpProgram(p), len(got))
		}
	}
}

func TestP1NewState(t *testing.T) {
	for _, p := range somePrograms(100) {
		if got := textOfState(impl.NewState(p)); got != "0|0 0 0 0|"+textOfInts(make([]int, p.Mem))+"||0||0|0" {
			t.Errorf("NewState(%s) = %s", dumpProgram(p), got)
		}
		if !impl.StateOk(p, impl.NewState(p)) {
			t.Errorf("StateOk of NewState(%s) = false", dumpProgram(p))
		}
	}
	for _, p := range badPrograms() {
		if got := impl.NewState(p); !noState(got) {
			t.Errorf("NewState(%.300s) = %s", dumpProgram(p), textOfState(got))
		}
	}
}

func TestP1StateOk(t *testing.T) {
	p := readProgram(t, "3 2 1|in r0|halt")
	for _, text := range []string{
		"0|0 0 0 0|0 0||0||0|0", "2|7 7 7 7|7 7|2 2 2|1|7 7 7 7 7 7|8|400", "1|0 7 0 7|0 7|0 1 2|1|0 7|2|1", "2|0 0 0 0|0 0||0||1|0", "0|0 0 0 0|0 0|0|0||0|400",
	} {
		if !impl.StateOk(p, readState(t, text)) {
			t.Errorf("StateOk(%q) = false", text)
		}
	}
	for _, text := range []string{
		zeroState, "3|0 0 0 0|0 0||0||0|0", "-1|0 0 0 0|0 0||0||0|0", "0|0 0 0|0 0||0||0|0", "0|0 0 0 0 0|0 0||0||0|0", "0|8 0 0 0|0 0||0||0|0", "0|0 0 0 -1|0 0||0||0|0",
		"0|0 0 0 0|0||0||0|0", "0|0 0 0 0|0 0 0||0||0|0", "0|0 0 0 0|0 8||0||0|0", "0|0 0 0 0|-1 0||0||0|0", "0|0 0 0 0|0 0|0 0 0 0|0||0|0", "0|0 0 0 0|0 0|3|0||0|0", "0|0 0 0 0|0 0|-1|0||0|0", "0|0 0 0 0|0 0|1 2 3|0||0|0",
		"0|0 0 0 0|0 0||2||0|0", "0|0 0 0 0|0 0||-1||0|0", "0|0 0 0 0|0 0||0|0 0 0 0 0 0 0|0|0", "0|0 0 0 0|0 0||0|8|0|0", "0|0 0 0 0|0 0||0|0 -1|0|0",
		"0|0 0 0 0|0 0||0||9|0", "0|0 0 0 0|0 0||0||-1|0", "0|0 0 0 0|0 0||0||0|401", "0|0 0 0 0|0 0||0||0|-1",
	} {
		if impl.StateOk(p, readState(t, text)) {
			t.Errorf("StateOk(%q) = true", text)
		}
	}
	m := maker{state: 41}
	for _, p := range somePrograms(60) {
		for range 10 {
			if s := m.machineState(p); !impl.StateOk(p, s) {
				t.Errorf("StateOk(%s, %s) = false", dumpProgram(p), textOfState(s))
			}
		}
		for _, s := range badStates(p) {
			if impl.StateOk(p, s) {
				t.Errorf("StateOk(%s, %.200s) = true", dumpProgram(p), textOfState(s))
			}
		}
	}
	for _, p := range badPrograms() {
		for mem := range 7 {
			if impl.StateOk(p, impl.State{Regs: make([]int, 4), Mem: make([]int, mem)}) {
				t.Errorf("StateOk(%.300s) = true", dumpProgram(p))
			}
		}
	}
}

// TestP1StepState has each instruction at place 1 of four, in a machine with words of 3 bits, 2 cells and an input, which is 6.
func TestP1StepState(t *testing.T) {
	for _, c := range []struct{ ins, before, after string }{
		{"set r0 7", "1|1 2 3 4|5 6|0|0|7|0|9", "2|7 2 3 4|5 6|0|0|7|0|10"},
		{"set r3 0", "1|1 2 3 4|5 6||0||0|0", "2|1 2 3 0|5 6||0||0|1"},
		{"move r2 r1", "1|1 2 3 4|5 6||0||0|0", "2|1 2 2 4|5 6||0||0|1"},
		{"move r3 r3", "1|1 2 3 4|5 6||0||0|0", "2|1 2 3 4|5 6||0||0|1"},
		{"add r2 r3", "1|1 2 6 4|5 6||0||0|0", "2|1 2 2 4|5 6||0||0|1"},
		{"sub r0 r1", "1|1 2 6 4|5 6||0||0|0", "2|7 2 6 4|5 6||0||0|1"},
		{"mul r2 r2", "1|1 2 3 4|5 6||0||0|0", "2|1 2 1 4|5 6||0||0|1"},
		{"div r2 r1", "1|1 2 7 4|5 6||0||0|0", "2|1 2 3 4|5 6||0||0|1"},
		{"rem r2 r3", "1|1 2 7 4|5 6||0||0|0", "2|1 2 3 4|5 6||0||0|1"},
		{"shl r0 r1", "1|3 1 7 4|5 6||0||0|0", "2|6 1 7 4|5 6||0||0|1"},
		{"sar r0 r1", "1|4 1 7 4|5 6||0||0|0", "2|6 1 7 4|5 6||0||0|1"},
		{"eq r0 r1", "1|5 5 7 4|5 6||0||0|0", "2|1 5 7 4|5 6||0||0|1"},
		{"eq r0 r1", "1|5 4 7 4|5 6||0||0|0", "2|0 4 7 4|5 6||0||0|1"},
		{"less r0 r1", "1|3 4 7 4|5 6||0||0|0", "2|1 4 7 4|5 6||0||0|1"},
		{"below r0 r1", "1|3 4 7 4|5 6||0||0|0", "2|0 4 7 4|5 6||0||0|1"},
		{"div r0 r1", "1|5 0 7 4|5 6|2|1|3|0|0", "1|5 0 7 4|5 6|2|1|3|6|1"},
		{"rem r1 r1", "1|5 0 7 4|5 6|2|1|3|0|399", "1|5 0 7 4|5 6|2|1|3|6|400"},
		{"div r1 r0", "1|5 0 7 4|5 6||0||0|0", "2|5 0 7 4|5 6||0||0|1"},
		{"shr r0 r1", "1|5 0 7 4|5 6||0||0|0", "2|5 0 7 4|5 6||0||0|1"},
		{"not r1", "1|1 2 3 4|5 6||0||0|0", "2|1 5 3 4|5 6||0||0|1"},
		{"in r1", "1|1 2 3 4|5 6||0||0|0", "2|1 6 3 4|5 6||1||0|1"},
		{"in r1", "1|1 2 3 4|5 6|1|1|2|0|0", "1|1 2 3 4|5 6|1|1|2|3|1"},
		{"out r2", "1|1 2 3 4|5 6||0||0|0", "2|1 2 3 4|5 6||0|3|0|1"},
		{"out r3", "1|1 2 3 4|5 6||0|7 7 7 7 7|0|0", "2|1 2 3 4|5 6||0|7 7 7 7 7 4|0|1"},
		{"out r3", "1|1 2 3 4|5 6||0|7 6 5 4 3 2|0|0", "1|1 2 3 4|5 6||0|7 6 5 4 3 2|4|1"},
		{"load r2 r0", "1|1 2 3 4|5 6||0||0|0", "2|1 2 6 4|5 6||0||0|1"},
		{"load r0 r0", "1|0 2 3 4|5 6||0||0|0", "2|5 2 3 4|5 6||0||0|1"},
		{"load r0 r1", "1|0 2 3 4|5 6|3|0|1|0|0", "1|0 2 3 4|5 6|3|0|1|5|1"},
		{"load r1 r0", "1|7 0 3 4|5 6||0||0|0", "1|7 0 3 4|5 6||0||5|1"},
		{"store r0 r2", "1|1 2 3 4|5 6||0||0|0", "2|1 2 3 4|5 3||0||0|1"},
		{"store r0 r0", "1|0 2 3 4|5 6||0||0|0", "2|0 2 3 4|0 6||0||0|1"},
		{"store r1 r0", "1|0 2 3 4|5 6|3|0|1|0|0", "1|0 2 3 4|5 6|3|0|1|5|1"},
		{"jump 3", "1|1 2 3 4|5 6|2|0||0|0", "3|1 2 3 4|5 6|2|0||0|1"},
		{"jump 1", "1|1 2 3 4|5 6||0||0|0", "1|1 2 3 4|5 6||0||0|1"},
		{"jump 4", "1|1 2 3 4|5 6||0||0|0", "4|1 2 3 4|5 6||0||0|1"},
		{"zero r3 4", "1|1 2 3 0|5 6||0||0|0", "4|1 2 3 0|5 6||0||0|1"},
		{"zero r3 0", "1|1 2 3 0|5 6||0||0|0", "0|1 2 3 0|5 6||0||0|1"},
		{"zero r0 0", "1|1 0 0 0|5 6||0||0|0", "2|1 0 0 0|5 6||0||0|1"},
		{"call 3", "1|1 2 3 4|5 6||0||0|0", "3|1 2 3 4|5 6|2|0||0|1"},
		{"call 1", "1|1 2 3 4|5 6|0 4|0||0|0", "1|1 2 3 4|5 6|0 4 2|0||0|1"},
		{"call 3", "1|1 2 3 4|5 6|0 4 1|0||0|0", "1|1 2 3 4|5 6|0 4 1|0||7|1"},
		{"ret", "1|1 2 3 4|5 6|3|0||0|0", "3|1 2 3 4|5 6||0||0|1"},
		{"ret", "1|1 2 3 4|5 6|1 2 4|0||0|0", "4|1 2 3 4|5 6|1 2|0||0|1"},
		{"ret", "1|1 2 3 4|5 6||0|1|0|0", "1|1 2 3 4|5 6||0|1|7|1"},
		{"check r1", "1|0 1 0 0|5 6||0||0|0", "2|0 1 0 0|5 6||0||0|1"},
		{"check r1", "1|1 0 1 1|5 6|2|0|1|0|0", "1|1 0 1 1|5 6|2|0|1|8|1"},
		{"halt", "1|1 2 3 4|5 6|2|1|1|0|0", "1|1 2 3 4|5 6|2|1|1|1|1"},
		{"halt", "1|1 2 3 4|5 6||0||0|399", "1|1 2 3 4|5 6||0||1|400"},
		// Nothing happens.
		{"set r0 0", "1|1 2 3 4|5 6|2|1|1|0|400", "1|1 2 3 4|5 6|2|1|1|0|400"},
		{"set r0 0", "4|1 2 3 4|5 6|2|1|1|0|400", "4|1 2 3 4|5 6|2|1|1|0|400"},
		{"set r0 0", "4|1 2 3 4|5 6|2|1|1|1|7", "4|1 2 3 4|5 6|2|1|1|1|7"},
		// There is no instruction.
		{"set r0 0", "4|1 2 3 4|5 6|2|1|1|0|7", "4|1 2 3 4|5 6|2|1|1|2|7"},
		{"set r0 0", "4|1 2 3 4|5 6||0||0|399", "4|1 2 3 4|5 6||0||2|399"},
	} {
		p := readProgram(t, "3 2 1|jump 3|"+c.ins+"|jump 3|check r3")
		before := readState(t, c.before)
		if got := textOfState(impl.StepState(p, before, []int{6})); got != c.after {
			t.Errorf("StepState of %s after %s = %s, want %s", c.before, c.ins, got, c.after)
		}
		for code := 1; code <= 8; code++ {
			before.Code = code
			if got := textOfState(impl.StepState(p, before, []int{6})); got != textOfState(before) {
				t.Errorf("StepState of %s after %s = %s", textOfState(before), c.ins, got)
			}
		}
	}
}

// TestP1StepStateOfAny compares with the document's text for any instruction in any state.
func TestP1StepStateOfAny(t *testing.T) {
	m := maker{state: 43}
	for _, p := range somePrograms(400) {
		for range 40 {
			s, in := m.machineState(p), m.inputs(p)
			want := textOfState(slowStep(p, s, in))
			if got := textOfState(impl.StepState(p, s, in)); got != want {
				t.Errorf("StepState(%s, %s, %v) = %s, want %s", dumpProgram(p), textOfState(s), in, got, want)
			}
		}
	}
}

// TestP1Operations has each operation with words of 2 bits, all of them, and of 8 bits.
func TestP1Operations(t *testing.T) {
	for op := impl.OpAdd; op <= impl.OpBelow; op++ {
		for _, w := range []int{2, 8} {
			p := impl.Program{W: w, Mem: 1, Code: []impl.Ins{ins(3, 1, 2, op)}}
			for _, a := range someWords(w) {
				for _, b := range someWords(w) {
					want := "1|3 " + textOfInts([]int{binary(op, w, a, b), b}) + " 1|0||0||0|1"
					if b == 0 && (op == impl.OpDiv || op == impl.OpRem) {
						want = "0|3 " + textOfInts([]int{a, b}) + " 1|0||0||6|1"
					}
					s := impl.State{Regs: []int{3, a, b, 1}, Mem: []int{0}}
					if got := textOfState(impl.StepState(p, s, nil)); got != want {
						t.Errorf("StepState of operation %d with %d and %d of %d bits = %s, want %s", op, a, b, w, got, want)
					}
				}
			}
		}
	}
}

func TestP1StepStateInvalid(t *testing.T) {
	p := readProgram(t, "3 2 1|in r0|halt")
	s := slowStart(p)
	if got := textOfState(impl.StepState(p, s, []int{7})); got != "1|7 0 0 0|0 0||1||0|1" {
		t.Errorf("StepState = %s", got)
	}
	for _, in := range badLists(3, 1) {
		if got := impl.StepState(p, s, in); !noState(got) {
			t.Errorf("StepState with the inputs %.100s = %s", textOfInts(in), textOfState(got))
		}
	}
	for _, bad := range badStates(p) {
		if got := impl.StepState(p, bad, []int{7}); !noState(got) {
			t.Errorf("StepState of %.200s = %s", textOfState(bad), textOfState(got))
		}
	}
	for _, bad := range badPrograms() {
		for n := range 3 {
			if got := impl.StepState(bad, s, make([]int, n)); !noState(got) {
				t.Errorf("StepState of %.300s = %s", dumpProgram(bad), textOfState(got))
			}
		}
	}
	// A state in which nothing happens has to be valid all the same.
	if got := impl.StepState(p, readState(t, "0|0 0 0 8|0 0||0||1|0"), []int{7}); !noState(got) {
		t.Errorf("StepState = %s", textOfState(got))
	}
	if got := impl.StepState(p, readState(t, "0|0 0 0 0|0 0||0||1|400"), []int{8}); !noState(got) {
		t.Errorf("StepState = %s", textOfState(got))
	}
}

func TestP1RunProgram(t *testing.T) {
	sum := "4 3 2|in r0|in r1|zero r1 6|add r2 r0|sub r1 r3|jump 2|out r2|halt"
	for _, c := range []struct {
		program     string
		in          []int
		fuel        int
		want, trace string
	}{
		{"2 1 0|halt", nil, 0, "0|0 0 0 0|0||0||0|0", ""}, {"2 1 0|halt", nil, 1, "0|0 0 0 0|0||0||1|1", "0"}, {"2 1 0|halt", nil, 2, "0|0 0 0 0|0||0||1|1", "0"}, {"2 1 0|halt", nil, 400, "0|0 0 0 0|0||0||1|1", "0"},
		{"3 2 1|in r0|set r1 3|add r0 r1|zero r0 6|out r0|halt|check r0", []int{4}, 20, "5|7 3 0 0|0 0||1|7|1|6", "0 1 2 3 4 5"},
		{"3 2 1|in r0|set r1 3|add r0 r1|zero r0 6|out r0|halt|check r0", []int{5}, 20, "6|0 3 0 0|0 0||1||8|5", "0 1 2 3 6"},
		{"3 2 1|in r0|set r1 3|add r0 r1|zero r0 6|out r0|halt|check r0", []int{5}, 4, "6|0 3 0 0|0 0||1||0|4", "0 1 2 3"},
		{"3 2 1|in r0|in r1|halt", []int{5}, 9, "1|5 0 0 0|0 0||1||3|2", "0 1"},
		// The step at the end begins no instruction.
		{"3 2 1|in r0", []int{5}, 1, "1|5 0 0 0|0 0||1||0|1", "0"}, {"3 2 1|in r0", []int{5}, 2, "1|5 0 0 0|0 0||1||2|1", "0"}, {"3 2 1|in r0", []int{5}, 3, "1|5 0 0 0|0 0||1||2|1", "0"}, {"3 2 0|jump 1", nil, 5, "1|0 0 0 0|0 0||0||2|1", "0"},
		{"3 2 0|jump 0", nil, 4, "0|0 0 0 0|0 0||0||0|4", "0 0 0 0"}, {"3 2 0|set r0 1|jump 1", nil, 3, "1|1 0 0 0|0 0||0||0|3", "0 1 1"},
		{sum, []int{3, 0}, 60, "7|3 0 0 0|0 0 0||2|0|1|5", "0 1 2 6 7"}, {"4 3 2|in r0|in r1|set r3 1|zero r1 7|add r2 r0|sub r1 r3|jump 3|out r2|halt", []int{5, 2}, 60, "8|5 0 10 1|0 0 0||2|10|1|14", "0 1 2 3 4 5 6 3 4 5 6 3 7 8"},
		// Calls, one inside the other, and returns.
		{"3 1 0|call 3|call 3|halt|out r0|call 6|ret|add r0 r1|not r0|ret", nil, 60, "2|0 0 0 0|0||0|0 7|1|15", "0 3 4 6 7 8 5 1 3 4 6 7 8 5 2"},
		{"3 1 0|call 0", nil, 60, "0|0 0 0 0|0|1 1 1|0||7|4", "0 0 0 0"}, {"3 1 0|call 1|ret", nil, 60, "1|0 0 0 0|0||0||7|3", "0 1 1"}, {"3 1 0|call 2|halt|call 3", nil, 60, "3|0 0 0 0|0|1 3|0||2|2", "0 2"},
		{"3 1 0|not r0|out r0|jump 0", nil, 400, "1|7 0 0 0|0||0|7 0 7 0 7 0|4|20", "0 1 2 0 1 2 0 1 2 0 1 2 0 1 2 0 1 2 0 1"},
		{"3 2 0|set r0 1|set r1 5|store r0 r1|load r2 r0|set r0 2|store r0 r1", nil, 60, "5|2 5 5 0|0 5||0||5|6", "0 1 2 3 4 5"},
		{"3 2 0|set r0 1|div r0 r1", nil, 60, "1|1 0 0 0|0 0||0||6|2", "0 1"},
	} {
		p := readProgram(t, c.program)
		if got := textOfState(impl.RunProgram(p, c.in, c.fuel)); got != c.want {
			t.Errorf("RunProgram(%q, %v, %d) = %s, want %s", c.program, c.in, c.fuel, got, c.want)
		}
		if got := textOfInts(impl.TraceOf(p, c.in, c.fuel)); got != c.trace {
			t.Errorf("TraceOf(%q, %v, %d) = %s, want %s", c.program, c.in, c.fuel, got, c.trace)
		}
	}
}

// TestP1RunsThatGoOn has runs of as many steps as there may be.
func TestP1RunsThatGoOn(t *testing.T) {
	p := readProgram(t, "8 1 0|set r1 1|add r0 r1|jump 1")
	var trace []int
	for fuel := 1; fuel <= 400; fuel++ {
		next := 1 + (fuel-1)%2
		want := impl.State{Pc: next, Regs: []int{fuel / 2, 1, 0, 0}, Mem: []int{0}, Steps: fuel}
		if got := textOfState(impl.RunProgram(p, nil, fuel)); got != textOfState(want) {
			t.Errorf("RunProgram of %d steps = %s", fuel, got)
		}
		trace = append(trace, (fuel-1)%2+truth(fuel > 1 && fuel%2 == 1)*2)
		if got := impl.TraceOf(p, nil, fuel); !slices.Equal(got, trace) {
			t.Errorf("TraceOf of %d steps = %v, want %v", fuel, got, trace)
		}
	}
}

// TestP1RunIsMadeOfSteps compares runs with steps, and with the document's text.
func TestP1RunIsMadeOfSteps(t *testing.T) {
	m := maker{state: 47}
	for _, p := range somePrograms(400) {
		for range 3 {
			in := m.inputs(p)
			s, slow := impl.NewState(p), slowStart(p)
			var trace []int
			for fuel := range 401 {
				if fuel < 40 || fuel%90 == 0 || fuel > 398 {
					if got := textOfState(impl.RunProgram(p, in, fuel)); got != textOfState(s) || got != textOfState(slow) {
						t.Fatalf("RunProgram(%s, %v, %d) = %s, but the steps make %s and %s", dumpProgram(p), in, fuel, got, textOfState(s), textOfState(slow))
					}
					if got := impl.TraceOf(p, in, fuel); !slices.Equal(got, trace) {
						t.Fatalf("TraceOf(%s, %v, %d) = %v, want %v", dumpProgram(p), in, fuel, got, trace)
					}
				}
				pc, steps := s.Pc, s.Steps
				s, slow = impl.StepState(p, s, in), slowStep(p, slow, in)
				if s.Steps > steps {
					trace = append(trace, pc)
				}
			}
		}
	}
}

func TestP1RunProgramInvalid(t *testing.T) {
	mustHaveNoRun := func(p impl.Program, in []int, fuel int) {
		t.Helper()
		if s, trace := impl.RunProgram(p, in, fuel), impl.TraceOf(p, in, fuel); !noState(s) || len(trace) != 0 {
			t.Errorf("a run of %.300s with %.100s and fuel %d: %s, %v", dumpProgram(p), textOfInts(in), fuel, textOfState(s), trace)
		}
	}
	p := readProgram(t, "3 2 1|in r0|halt")
	for _, fuel := range badFuels {
		mustHaveNoRun(p, []int{1}, fuel)
	}
	for _, in := range badLists(3, 1) {
		mustHaveNoRun(p, in, 5)
		mustHaveNoRun(p, in, 0)
	}
	for _, bad := range badPrograms() {
		for n := range 3 {
			mustHaveNoRun(bad, make([]int, n), 5)
			mustHaveNoRun(bad, make([]int, n), 0)
		}
	}
}

func TestP1SameRun(t *testing.T) {
	for _, c := range []struct {
		a, b string
		want bool
	}{
		{zeroState, "7|1 2|3|4 5|6||0|9", true}, {"0||1||0||1|2", "3|1||2|3||1|4", true}, {"0||||0||1|0", "0||||0||2|0", false}, {"0||||0|1 2|1|0", "0||||0|1 2|1|0", true}, {"0||||0|1 2|1|0", "0||||0|1 3|1|0", false},
		{"0||||0|1 2|1|0", "0||||0|1|1|0", false}, {"0||||0||1|0", "0||||0|0|1|0", false}, {"0||||0|1 2|1|0", "0||||0|2 1|1|0", false}, {"0||||0|1 2|1|0", "0||||0|1 2|0|0", false},
		// These are not valid.
		{"-5||||77|-1 900|55|-7", "9|8|7|6|5|-1 900|55|3", true}, {"-5||||77|-1 900|55|-7", "-5||||77|-1 900|-55|-7", false}, {"0||||0|1 2 3 4 5 6 7 8|0|0", "0||||0|1 2 3 4 5 6 7 8|0|0", true}, {"0||||0|1 2 3 4 5 6 7 8|0|0", "0||||0|1 2 3 4 5 6 7 9|0|0", false},
	} {
		a, b := readState(t, c.a), readState(t, c.b)
		if impl.SameRun(a, b) != c.want || impl.SameRun(b, a) != c.want {
			t.Errorf("SameRun(%q, %q) = %v", c.a, c.b, !c.want)
		}
	}
	if !impl.SameRun(impl.State{Out: []int{}}, impl.State{Regs: []int{1}}) {
		t.Error("SameRun of no outputs and of an empty list of outputs = false")
	}
}

func TestP1CodeName(t *testing.T) {
	for code, want := range []string{"running", "halted", "end", "input", "output", "address", "division", "stack", "check", "big"} {
		if got := impl.CodeName(code); got != want {
			t.Errorf("CodeName(%d) = %q, want %q", code, got, want)
		}
	}
	for _, code := range slices.Concat([]int{10, 11, -9, -10}, oddInts) {
		if got := impl.CodeName(code); got != "" && (code < 0 || code > 9) {
			t.Errorf("CodeName(%s) = %q", strconv.Itoa(code), got)
		}
	}
}
