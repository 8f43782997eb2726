package tests

import (
	"math"
	"slices"
	"strconv"
	"strings"
	"testing"

	"loop.example/g03219/impl"
)

func ins(op, a, b, c int) impl.Ins {
	return impl.Ins{Op: op, A: a, B: b, C: c}
}

// readProgram returns the program of a text without the first word and with | between its lines.
func readProgram(t *testing.T, s string) impl.Program {
	t.Helper()
	p, ok := impl.ParseProgram("machine " + strings.ReplaceAll(s, "|", "\n") + "\n")
	if !ok {
		t.Fatalf("ParseProgram of %q fails", s)
	}
	return p
}

// A rule tells which operands the instructions with one Op have: the least and the greatest number for A, B and C.
type rule struct {
	name    string
	a, b, c [2]int
}

// ruleOf is the list of instructions of the document.
func ruleOf(op, w, size int) (rule, bool) {
	none, reg := [2]int{0, 0}, [2]int{0, 3}
	word, place := [2]int{0, power(w) - 1}, [2]int{0, size}
	r, ok := map[int]rule{
		1: {"set", reg, word, none}, 2: {"move", reg, reg, none}, 3: {"", reg, reg, [2]int{3, 16}}, 4: {"not", reg, none, none}, 5: {"in", reg, none, none},
		6: {"out", reg, none, none}, 7: {"load", reg, reg, none}, 8: {"store", reg, reg, none}, 9: {"jump", none, place, none}, 10: {"zero", reg, place, none},
		11: {"call", none, place, none}, 12: {"ret", none, none, none}, 13: {"check", reg, none, none}, 14: {"halt", none, none, none},
	}[op]
	return r, ok
}

func within(n int, limits [2]int) bool {
	return n >= limits[0] && n <= limits[1]
}

// fits reports whether an instruction can be in a program with words of w bits and so many instructions.
func fits(i impl.Ins, w, size int) bool {
	r, ok := ruleOf(i.Op, w, size)
	return ok && within(i.A, r.a) && within(i.B, r.b) && within(i.C, r.c)
}

// textOfIns is FormatIns of an instruction that fits, without the program's help.
func textOfIns(i impl.Ins) string {
	a, b, n := " r"+strconv.Itoa(i.A), " r"+strconv.Itoa(i.B), " "+strconv.Itoa(i.B)
	r, _ := ruleOf(i.Op, 8, 40)
	switch i.Op {
	case 1, 10:
		return r.name + a + n
	case 2, 7, 8:
		return r.name + a + b
	case 3:
		return termNames[i.C] + a + b
	case 9, 11:
		return r.name + n
	case 12, 14:
		return r.name
	}
	return r.name + a
}

func textOfProgram(p impl.Program) string {
	lines := []string{"machine " + textOfInts([]int{p.W, p.Mem, p.In})}
	for _, i := range p.Code {
		lines = append(lines, textOfIns(i))
	}
	return strings.Join(lines, "\n") + "\n"
}

// dumpProgram writes a program whether it is valid or not, with what is in spare capacity.
func dumpProgram(p impl.Program) string {
	l := []int{p.W, p.Mem, p.In, len(p.Code)}
	for _, i := range p.Code[:cap(p.Code)] {
		l = append(l, i.Op, i.A, i.B, i.C)
	}
	return textOfInts(l)
}

func samePrograms(a, b impl.Program) bool {
	return a.W == b.W && a.Mem == b.Mem && a.In == b.In && slices.Equal(a.Code, b.Code)
}

func textOfState(s impl.State) string {
	return strings.Join([]string{
		strconv.Itoa(s.Pc), textOfInts(s.Regs), textOfInts(s.Mem), textOfInts(s.Stack), strconv.Itoa(s.In), textOfInts(s.Out), strconv.Itoa(s.Code), strconv.Itoa(s.Steps),
	}, "|")
}

const zeroState = "0||||0||0|0"

// noState reports whether a state is the zero value.
func noState(s impl.State) bool {
	return textOfState(s) == zeroState
}

func readInts(t *testing.T, s string) []int {
	t.Helper()
	var l []int
	for _, text := range strings.Fields(s) {
		n, err := strconv.Atoi(text)
		if err != nil {
			t.Fatal(err)
		}
		l = append(l, n)
	}
	return l
}

// readState returns the state of a text as textOfState writes it.
func readState(t *testing.T, s string) impl.State {
	t.Helper()
	var l [][]int
	for _, part := range strings.Split(s, "|") {
		l = append(l, readInts(t, part))
	}
	return impl.State{Pc: l[0][0], Regs: l[1], Mem: l[2], Stack: l[3], In: l[4][0], Out: l[5], Code: l[6][0], Steps: l[7][0]}
}

func copyOfState(s impl.State) impl.State {
	s.Regs, s.Mem, s.Stack, s.Out = slices.Clone(s.Regs), slices.Clone(s.Mem), slices.Clone(s.Stack), slices.Clone(s.Out)
	return s
}

func copyOfProgram(p impl.Program) impl.Program {
	p.Code = slices.Clone(p.Code)
	return p
}

// slowTrouble returns the code that tells why an instruction cannot be done, or 0.
func slowTrouble(p impl.Program, s impl.State, i impl.Ins) int {
	switch {
	case i.Op == 5 && s.In == p.In:
		return 3
	case i.Op == 6 && len(s.Out) == 6:
		return 4
	case i.Op == 7 && s.Regs[i.B] >= p.Mem, i.Op == 8 && s.Regs[i.A] >= p.Mem:
		return 5
	case i.Op == 3 && (i.C == 6 || i.C == 7) && s.Regs[i.B] == 0:
		return 6
	case i.Op == 11 && len(s.Stack) == 3, i.Op == 12 && len(s.Stack) == 0:
		return 7
	case i.Op == 13 && s.Regs[i.A] == 0:
		return 8
	}
	return 0
}

// slowStep is StepState of valid arguments, word for word.
func slowStep(p impl.Program, s impl.State, in []int) impl.State {
	s = copyOfState(s)
	if s.Code != 0 || s.Steps == 400 {
		return s
	}
	if s.Pc == len(p.Code) {
		s.Code = 2
		return s
	}
	i, next := p.Code[s.Pc], s.Pc+1
	s.Steps++
	if s.Code = slowTrouble(p, s, i); s.Code != 0 {
		return s
	}
	switch i.Op {
	case 1:
		s.Regs[i.A] = i.B
	case 2:
		s.Regs[i.A] = s.Regs[i.B]
	case 3:
		s.Regs[i.A] = binary(i.C, p.W, s.Regs[i.A], s.Regs[i.B])
	case 4:
		s.Regs[i.A] = power(p.W) - 1 - s.Regs[i.A]
	case 5:
		s.Regs[i.A] = in[s.In]
		s.In++
	case 6:
		s.Out = append(s.Out, s.Regs[i.A])
	case 7:
		s.Regs[i.A] = s.Mem[s.Regs[i.B]]
	case 8:
		s.Mem[s.Regs[i.A]] = s.Regs[i.B]
	case 9:
		next = i.B
	case 10:
		if s.Regs[i.A] == 0 {
			next = i.B
		}
	case 11:
		s.Stack = append(s.Stack, next)
		next = i.B
	case 12:
		next = s.Stack[len(s.Stack)-1]
		s.Stack = s.Stack[:len(s.Stack)-1]
	case 14:
		s.Code = 1
		return s
	}
	s.Pc = next
	return s
}

// slowStart is NewState of a valid program.
func slowStart(p impl.Program) impl.State {
	return impl.State{Regs: []int{0, 0, 0, 0}, Mem: make([]int, p.Mem)}
}

// slowNext is NextOf of a valid program and a place with an instruction.
func slowNext(p impl.Program, pc int) []int {
	i := p.Code[pc]
	switch i.Op {
	case 9:
		return []int{i.B}
	case 10, 11:
		switch {
		case i.B < pc+1:
			return []int{i.B, pc + 1}
		case i.B > pc+1:
			return []int{pc + 1, i.B}
		}
	case 12, 14:
		return nil
	}
	return []int{pc + 1}
}

// slowReached is ReachedOf of a valid program: a table of ways that are put together until none is new.
func slowReached(p impl.Program) []int {
	is := map[int]bool{0: true}
	for range len(p.Code) + 1 {
		for pc := range p.Code {
			if is[pc] {
				for _, next := range slowNext(p, pc) {
					is[next] = true
				}
			}
		}
	}
	var l []int
	for pc := range len(p.Code) + 1 {
		if is[pc] {
			l = append(l, pc)
		}
	}
	return l
}

// slowHeads is LoopHeads of a valid program.
func slowHeads(p impl.Program) []int {
	var l []int
	reached := slowReached(p)
	for head := range p.Code {
		for pc := head; pc < len(p.Code); pc++ {
			if slices.Contains(reached, pc) && slices.Contains(slowNext(p, pc), head) {
				l = append(l, head)
				break
			}
		}
	}
	return l
}

// ins makes an instruction that fits; rare is how seldom a run ends at once by it.
func (m *maker) ins(w, size, rare int) impl.Ins {
	op := 1 + m.below(14)
	for op > 11 && m.below(rare) > 0 {
		op = 1 + m.below(14)
	}
	r, _ := ruleOf(op, w, size)
	between := func(limits [2]int) int { return limits[0] + m.below(limits[1]-limits[0]+1) }
	i := ins(op, between(r.a), between(r.b), between(r.c))
	if op == impl.InsSet && m.below(2) == 0 {
		// Words that are places of cells, so that cells are used.
		i.B = m.below(3)
	}
	return i
}

func (m *maker) program(size int) impl.Program {
	w := 2 + m.below(7)
	p := impl.Program{W: w, Mem: 1 + m.below(min(6, power(w)-1)), In: m.below(4)}
	rare := 1 + m.below(6)
	for range size {
		p.Code = append(p.Code, m.ins(w, size, rare))
	}
	return p
}

// somePrograms are valid programs, most of them small.
func somePrograms(n int) []impl.Program {
	m := maker{state: 31}
	var l []impl.Program
	for k := range n {
		size := 1 + m.below(12)
		if k%8 == 7 {
			size = 13 + m.below(28)
		}
		l = append(l, m.program(size))
	}
	return l
}

func (m *maker) wordsBelow(least, most, limit int) []int {
	l := make([]int, least+m.below(most-least+1))
	for i := range l {
		l[i] = m.below(limit)
		if m.below(2) == 0 {
			l[i] = m.below(min(limit, 4))
		}
	}
	return l
}

// machineState makes a valid state of a program.
func (m *maker) machineState(p impl.Program) impl.State {
	s := impl.State{
		Pc: m.below(len(p.Code) + 1), Regs: m.wordsBelow(4, 4, power(p.W)), Mem: m.wordsBelow(p.Mem, p.Mem, power(p.W)),
		Stack: m.wordsBelow(0, 3, len(p.Code)+1), In: m.below(p.In + 1), Out: m.wordsBelow(0, 6, power(p.W)), Steps: m.below(400),
	}
	if m.below(8) == 0 {
		s.Code = m.below(9)
	}
	if m.below(8) == 0 {
		s.Steps = 399 + m.below(2)
	}
	return s
}

func (m *maker) inputs(p impl.Program) []int {
	return m.wordsBelow(p.In, p.In, power(p.W))
}

// changed returns a copy of a program after a change.
func changed(p impl.Program, change func(p *impl.Program)) impl.Program {
	p = copyOfProgram(p)
	change(&p)
	return p
}

// badPrograms are programs that are not valid, each for one reason only.
func badPrograms() []impl.Program {
	p := impl.Program{W: 3, Mem: 2, In: 1, Code: []impl.Ins{ins(5, 0, 0, 0), ins(10, 0, 3, 0), ins(14, 0, 0, 0)}}
	l := []impl.Program{{}}
	for _, n := range oddInts {
		if n < 2 || n > 8 {
			l = append(l, changed(p, func(p *impl.Program) { p.W = n }))
		}
		if n < 1 || n > 6 {
			l = append(l, changed(p, func(p *impl.Program) { p.Mem = n }))
		}
		if n < 0 || n > 3 {
			l = append(l, changed(p, func(p *impl.Program) { p.In = n }))
		}
		for op := range 17 {
			if i := ins(op, n, n, n); !fits(i, 3, 3) {
				l = append(l, changed(p, func(p *impl.Program) { p.Code[1] = i }))
			}
		}
		if n < 1 || n > 14 {
			l = append(l, changed(p, func(p *impl.Program) { p.Code[2].Op = n }))
		}
	}
	for _, mem := range []int{4, 5, 6} {
		l = append(l, changed(p, func(p *impl.Program) { p.W, p.Mem = 2, mem }))
	}
	for _, size := range []int{0, 41, 42, 1000, 100000} {
		l = append(l, changed(p, func(p *impl.Program) { p.Code = slices.Repeat([]impl.Ins{ins(14, 0, 0, 0)}, size) }))
	}
	return l
}

// badLists are lists that are not of so many words of w bits.
func badLists(w, n int) [][]int {
	l := [][]int{make([]int, n+1), make([]int, n+2), make([]int, 10000)}
	if n > 0 {
		l = append(l, nil, []int{}, make([]int, n-1))
	}
	for k := range n {
		for _, word := range []int{-1, power(w), power(w) + 1, 1 << 32, oddInts[0], oddInts[len(oddInts)-1]} {
			words := make([]int, n)
			words[k] = word
			l = append(l, words)
		}
	}
	return l
}

var badFuels = []int{-1, -2, 401, 402, 1 << 32, math.MinInt, math.MaxInt}

// badStates are states that are not valid for a program, each for one reason only.
func badStates(p impl.Program) []impl.State {
	good := slowStart(p)
	l := []impl.State{{}}
	add := func(change func(s *impl.State)) {
		s := copyOfState(good)
		change(&s)
		l = append(l, s)
	}
	for _, n := range append([]int{len(p.Code) + 1, p.In + 1, 9, 10, 401}, oddInts...) {
		if n < 0 || n > len(p.Code) {
			add(func(s *impl.State) { s.Pc = n })
			add(func(s *impl.State) { s.Stack = []int{n} })
			add(func(s *impl.State) { s.Stack = []int{0, 0, n} })
		}
		if n < 0 || n > p.In {
			add(func(s *impl.State) { s.In = n })
		}
		if n < 0 || n > 8 {
			add(func(s *impl.State) { s.Code = n })
		}
		if n < 0 || n > 400 {
			add(func(s *impl.State) { s.Steps = n })
		}
		if n < 0 || n > power(p.W)-1 {
			add(func(s *impl.State) { s.Out = []int{n} })
			add(func(s *impl.State) { s.Out = []int{0, 0, 0, 0, 0, n} })
		}
	}
	for _, words := range badLists(p.W, 4) {
		add(func(s *impl.State) { s.Regs = words })
	}
	for _, words := range badLists(p.W, p.Mem) {
		add(func(s *impl.State) { s.Mem = words })
	}
	add(func(s *impl.State) { s.Stack = make([]int, 4) })
	add(func(s *impl.State) { s.Out = make([]int, 7) })
	return l
}
