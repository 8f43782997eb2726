package tests

import (
	"slices"
	"strconv"
	"strings"
	"testing"

	"loop.example/g03219/impl"
)

const zeroPath = "0||||0||0|0||"

func textOfTerms(l []impl.Term) string {
	var texts []string
	for _, u := range l {
		texts = append(texts, textOf(u))
	}
	return strings.Join(texts, ", ")
}

// textOfPath writes a path whose terms are valid.
func textOfPath(s impl.Path) string {
	return strings.Join([]string{
		strconv.Itoa(s.Pc), textOfTerms(s.Regs), textOfTerms(s.Mem), textOfInts(s.Stack), strconv.Itoa(s.In), textOfTerms(s.Out),
		strconv.Itoa(s.Code), strconv.Itoa(s.Steps), textOfTerms(s.Cond), textOfInts(s.Turns),
	}, "|")
}

func textOfPaths(l []impl.Path) string {
	var texts []string
	for _, s := range l {
		texts = append(texts, textOfPath(s))
	}
	return strings.Join(texts, " & ")
}

// noPath reports whether a path is the zero value.
func noPath(s impl.Path) bool {
	return textOfPath(s) == zeroPath
}

func readTerms(t *testing.T, s string) []impl.Term {
	t.Helper()
	var l []impl.Term
	if s == "" {
		return nil
	}
	for _, text := range strings.Split(s, ", ") {
		l = append(l, read(t, text))
	}
	return l
}

// readPath returns the path of a text as textOfPath writes it.
func readPath(t *testing.T, s string) impl.Path {
	t.Helper()
	parts := strings.Split(s, "|")
	state := readState(t, strings.Join([]string{parts[0], "", "", parts[3], parts[4], "", parts[6], parts[7]}, "|"))
	return impl.Path{
		Pc: state.Pc, Regs: readTerms(t, parts[1]), Mem: readTerms(t, parts[2]), Stack: state.Stack, In: state.In, Out: readTerms(t, parts[5]),
		Code: state.Code, Steps: state.Steps, Cond: readTerms(t, parts[8]), Turns: readInts(t, parts[9]),
	}
}

// copyOfPath copies the lists of a path; the terms in them are never changed by the tests.
func copyOfPath(s impl.Path) impl.Path {
	s.Regs, s.Mem, s.Out, s.Cond = slices.Clone(s.Regs), slices.Clone(s.Mem), slices.Clone(s.Out), slices.Clone(s.Cond)
	s.Stack, s.Turns = slices.Clone(s.Stack), slices.Clone(s.Turns)
	return s
}

const tooBig = "a term is too big"

// slowMake is MakeTerm of operations; it panics with tooBig where that fails.
func slowMake(op, w int, kids ...impl.Term) impl.Term {
	u, ok := impl.MakeTerm(op, w, 0, kids)
	if !ok {
		panic(tooBig)
	}
	return u
}

// slowQuestion returns the question of an instruction, and whether it has one.
func slowQuestion(p impl.Program, s impl.Path, i impl.Ins) (impl.Term, bool) {
	zero, cells := constant(p.W, 0), constant(p.W, p.Mem)
	switch {
	case i.Op == 10 || i.Op == 13:
		return slowMake(impl.OpEq, 1, zero, s.Regs[i.A]), true
	case i.Op == 3 && (i.C == 6 || i.C == 7):
		return slowMake(impl.OpEq, 1, zero, s.Regs[i.B]), true
	case i.Op == 7:
		return slowMake(impl.OpNot, 1, slowMake(impl.OpLess, 1, s.Regs[i.B], cells)), true
	case i.Op == 8:
		return slowMake(impl.OpNot, 1, slowMake(impl.OpLess, 1, s.Regs[i.A], cells)), true
	}
	return impl.Term{}, false
}

// slowNamed is what the document names in brackets.
func slowNamed(s impl.Path, i impl.Ins) impl.Path {
	s = copyOfPath(s)
	switch i.Op {
	case 10:
		s.Pc = i.B
	case 13:
		s.Code = 8
	case 3:
		s.Code = 6
	case 7, 8:
		s.Code = 5
	}
	return s
}

// slowLoad is the term of the cell whose index is x.
func slowLoad(p impl.Program, s impl.Path, x impl.Term) impl.Term {
	if x.Op == impl.OpConst {
		return s.Mem[x.N]
	}
	u := s.Mem[p.Mem-1]
	for k := p.Mem - 2; k >= 0; k-- {
		u = slowMake(impl.OpIf, p.W, slowMake(impl.OpEq, 1, constant(p.W, k), x), s.Mem[k], u)
	}
	return u
}

// slowStored are the cells after u was stored in the one whose index is x.
func slowStored(p impl.Program, s impl.Path, x, u impl.Term) []impl.Term {
	l := slices.Clone(s.Mem)
	for k := range l {
		switch {
		case x.Op != impl.OpConst:
			l[k] = slowMake(impl.OpIf, p.W, slowMake(impl.OpEq, 1, constant(p.W, k), x), u, l[k])
		case x.N == k:
			l[k] = u
		}
	}
	return l
}

// slowRest is what an instruction does where it has no question, or where the answer is no.
func slowRest(p impl.Program, s impl.Path, i impl.Ins) impl.Path {
	s = copyOfPath(s)
	next := s.Pc + 1
	switch {
	case i.Op == 5 && s.In == p.In:
		s.Code = 3
		return s
	case i.Op == 6 && len(s.Out) == 6:
		s.Code = 4
		return s
	case i.Op == 11 && len(s.Stack) == 3, i.Op == 12 && len(s.Stack) == 0:
		s.Code = 7
		return s
	case i.Op == 14:
		s.Code = 1
		return s
	}
	switch i.Op {
	case 1:
		s.Regs[i.A] = constant(p.W, i.B)
	case 2:
		s.Regs[i.A] = s.Regs[i.B]
	case 3:
		if i.C < 14 {
			s.Regs[i.A] = slowMake(i.C, p.W, s.Regs[i.A], s.Regs[i.B])
		} else {
			s.Regs[i.A] = slowMake(impl.OpGrow, p.W, slowMake(i.C, 1, s.Regs[i.A], s.Regs[i.B]))
		}
	case 4:
		s.Regs[i.A] = slowMake(impl.OpNot, p.W, s.Regs[i.A])
	case 5:
		s.Regs[i.A] = variable(p.W, "i"+strconv.Itoa(s.In))
		s.In++
	case 6:
		s.Out = append(s.Out, s.Regs[i.A])
	case 7:
		s.Regs[i.A] = slowLoad(p, s, s.Regs[i.B])
	case 8:
		s.Mem = slowStored(p, s, s.Regs[i.A], s.Regs[i.B])
	case 9:
		next = i.B
	case 11:
		s.Stack = append(s.Stack, next)
		next = i.B
	case 12:
		next = s.Stack[len(s.Stack)-1]
		s.Stack = s.Stack[:len(s.Stack)-1]
	}
	s.Pc = next
	return s
}

// slowPaths is StepPath of a valid path, word for word.
func slowPaths(p impl.Program, s impl.Path) (l []impl.Path) {
	if s.Code != 0 || s.Steps == 400 {
		return nil
	}
	s = copyOfPath(s)
	if s.Pc == len(p.Code) {
		s.Code = 2
		return []impl.Path{s}
	}
	s.Steps++
	defer func() {
		if r := recover(); r == tooBig {
			s.Code = 9
			l = []impl.Path{s}
		} else if r != nil {
			panic(r)
		}
	}()
	i := p.Code[s.Pc]
	c, asks := slowQuestion(p, s, i)
	if !asks || c.Op == impl.OpConst && c.N == 0 {
		return []impl.Path{slowRest(p, s, i)}
	}
	first := slowNamed(s, i)
	if c.Op == impl.OpConst {
		return []impl.Path{first}
	}
	second := slowRest(p, s, i)
	first.Cond, first.Turns = append(first.Cond, c), append(first.Turns, 1)
	second.Cond, second.Turns = append(second.Cond, slowMake(impl.OpNot, 1, c)), append(second.Turns, 0)
	if len(first.Cond) > 60 || len(first.Turns) > 60 {
		panic(tooBig)
	}
	return []impl.Path{first, second}
}

// slowStartPath is StartPath of a valid program.
func slowStartPath(p impl.Program) impl.Path {
	return impl.Path{Regs: repeatedTerm(constant(p.W, 0), 4), Mem: repeatedTerm(constant(p.W, 0), p.Mem)}
}

func repeatedTerm(u impl.Term, n int) []impl.Term {
	return slices.Repeat([]impl.Term{u}, n)
}

// overInputs puts inputs of a program, cut or grown to their widths, in place of the variables that a maker makes.
func overInputs(p impl.Program, u impl.Term) impl.Term {
	if u.Op == impl.OpVar {
		if p.In == 0 {
			return constant(u.W, u.W%2)
		}
		in := variable(p.W, "i0")
		if u.Name[0] == 'b' {
			in.Name = "i" + strconv.Itoa(p.In-1)
		}
		switch {
		case u.W < p.W:
			return node(impl.OpCut, u.W, 0, in)
		case u.W > p.W:
			return node(impl.OpGrow, u.W, 0, in)
		}
		return in
	}
	kids := slices.Clone(u.Kids)
	for k := range kids {
		kids[k] = overInputs(p, kids[k])
	}
	u.Kids = kids
	return u
}

// termOver makes a valid term over the inputs of a program.
func (m *maker) termOver(p impl.Program, w int) impl.Term {
	for {
		u := overInputs(p, m.term(w, m.below(4)))
		if impl.TermOk(u) {
			return u
		}
	}
}

func (m *maker) termsOver(p impl.Program, w, n int) []impl.Term {
	var l []impl.Term
	for range n {
		u := m.termOver(p, w)
		if m.below(3) == 0 {
			u = constant(w, m.below(power(min(w, 2))))
		}
		l = append(l, u)
	}
	return l
}

// path makes a valid path over the inputs of a program.
func (m *maker) path(p impl.Program) impl.Path {
	s := impl.Path{
		Pc: m.below(len(p.Code) + 1), Regs: m.termsOver(p, p.W, 4), Mem: m.termsOver(p, p.W, p.Mem), Stack: m.wordsBelow(0, 3, len(p.Code)+1), In: m.below(p.In + 1),
		Out: m.termsOver(p, p.W, m.below(7)), Steps: m.below(400), Cond: m.termsOver(p, 1, m.below(3)), Turns: m.wordsBelow(0, 3, 2),
	}
	switch m.below(24) {
	case 0, 1:
		s.Code = m.below(10)
	case 2, 3:
		s.Steps = 399 + m.below(2)
	case 4:
		s.Cond = repeatedTerm(constant(1, 1), 59+m.below(2))
	case 5:
		s.Turns = slices.Repeat([]int{m.below(2)}, 59+m.below(2))
	case 6, 7:
		s.Regs[m.below(4)] = sized(p.W, 226+m.below(15))
	case 8:
		s.Regs[m.below(4)] = nots(60+m.below(60), sized(p.W, 1))
		s.Mem[m.below(p.Mem)] = sized(p.W, 60+m.below(100))
	case 9:
		s.Regs[m.below(4)] = variable(p.W, "other")
	case 10:
		s.Cond = append(s.Cond, node(impl.OpCut, 1, 0, variable(1+m.below(4), "i0")))
	}
	return s
}

// forkingIns makes an instruction that often asks something.
func (m *maker) forkingIns(w, size int) impl.Ins {
	switch m.below(8) {
	case 0, 1:
		return ins(impl.InsZero, m.below(4), m.below(size+1), 0)
	case 2:
		return ins(impl.InsOp, m.below(4), m.below(4), impl.OpAdd+m.below(14))
	case 3:
		return ins(impl.InsLoad+m.below(2), m.below(4), m.below(4), 0)
	case 4:
		return ins(impl.InsCheck, m.below(4), 0, 0)
	}
	return m.ins(w, size, 4)
}

// forkingPrograms read some inputs, of at most 6 bits together, and have so many ends that some cannot be explored.
func forkingPrograms(n int) []impl.Program {
	m := maker{state: 211}
	var l []impl.Program
	for len(l) < n {
		w, in := 2+m.below(3), 1+m.below(3)
		if w*in > 6 {
			continue
		}
		p := impl.Program{W: w, Mem: 1 + m.below(3), In: in}
		size := in + 2 + m.below(9)
		for k := range in {
			p.Code = append(p.Code, ins(impl.InsIn, k, 0, 0))
		}
		for len(p.Code) < size {
			p.Code = append(p.Code, m.forkingIns(w, size))
		}
		l = append(l, p)
	}
	return l
}

// allWords are all lists of inputs of a program, in lexicographic order.
func allWords(p impl.Program) [][]int {
	l := [][]int{nil}
	for range p.In {
		var longer [][]int
		for _, in := range l {
			for n := range power(p.W) {
				longer = append(longer, append(slices.Clone(in), n))
			}
		}
		l = longer
	}
	return l
}

// wordsByName are the inputs as the words of variables.
func wordsByName(in []int) map[string]int {
	words := map[string]int{}
	for k, n := range in {
		words["i"+strconv.Itoa(k)] = n
	}
	return words
}

// readsOnly reports whether all variables of some terms are inputs of a program.
func readsOnly(p impl.Program, l []impl.Term) bool {
	for _, u := range l {
		for _, v := range variablesIn(u, nil) {
			k := slices.Index([]string{"i0", "i1", "i2"}, v.Name)
			if k < 0 || k >= p.In || v.W != p.W {
				return false
			}
		}
	}
	return true
}

// slowHolds is HoldsPath of a valid path and of inputs of its program.
func slowHolds(p impl.Program, s impl.Path, in []int) bool {
	return readsOnly(p, s.Cond) && !slices.ContainsFunc(s.Cond, func(c impl.Term) bool { return wordOf(c, wordsByName(in)) != 1 })
}

// slowEval is EvalPath of a valid path that holds.
func slowEval(p impl.Program, s impl.Path, in []int) (impl.State, bool) {
	if !readsOnly(p, slices.Concat(s.Regs, s.Mem, s.Out)) {
		return impl.State{}, false
	}
	words := func(l []impl.Term) []int {
		var out []int
		for _, u := range l {
			out = append(out, wordOf(u, wordsByName(in)))
		}
		return out
	}
	return impl.State{Pc: s.Pc, Regs: words(s.Regs), Mem: words(s.Mem), Stack: s.Stack, In: s.In, Out: words(s.Out), Code: s.Code, Steps: s.Steps}, true
}

// slowExplore is Explore of a valid path from which so many steps may be made, without a limit but that of 500 ends.
func slowExplore(p impl.Program, s impl.Path, fuel int, ends []impl.Path) []impl.Path {
	next := slowPaths(p, s)
	if fuel == 0 || len(next) == 0 {
		return append(ends, s)
	}
	for _, after := range next {
		if len(ends) < 500 {
			ends = slowExplore(p, after, fuel-1, ends)
		}
	}
	return ends
}

// changedPath returns a copy of a path after a change.
func changedPath(s impl.Path, change func(s *impl.Path)) impl.Path {
	s = copyOfPath(s)
	change(&s)
	return s
}

// badPaths are paths that are not valid for a program, each for one reason only.
func badPaths(p impl.Program) []impl.Path {
	good := slowStartPath(p)
	l := []impl.Path{{}}
	add := func(change func(s *impl.Path)) { l = append(l, changedPath(good, change)) }
	for _, n := range append([]int{len(p.Code) + 1, p.In + 1, 10, 401}, oddInts...) {
		if n < 0 || n > len(p.Code) {
			add(func(s *impl.Path) { s.Pc = n })
			add(func(s *impl.Path) { s.Stack = []int{n} })
			add(func(s *impl.Path) { s.Stack = []int{0, 0, n} })
		}
		if n < 0 || n > p.In {
			add(func(s *impl.Path) { s.In = n })
		}
		if n < 0 || n > 9 {
			add(func(s *impl.Path) { s.Code = n })
		}
		if n < 0 || n > 400 {
			add(func(s *impl.Path) { s.Steps = n })
		}
		if n != 0 && n != 1 {
			add(func(s *impl.Path) { s.Turns = []int{n} })
			add(func(s *impl.Path) { s.Turns = []int{0, 1, n} })
		}
	}
	zero := constant(p.W, 0)
	for _, n := range []int{0, 3, 5, 1000} {
		add(func(s *impl.Path) { s.Regs = repeatedTerm(zero, n) })
	}
	for _, n := range []int{0, p.Mem - 1, p.Mem + 1, 1000} {
		add(func(s *impl.Path) { s.Mem = repeatedTerm(zero, n) })
	}
	odd := append(badLeaves(), constant(p.W+1, 0), constant(p.W-1, 0), constant(1, 1), variable(p.W+1, "i0"))
	for k, u := range odd {
		if u.W == p.W && impl.TermOk(u) {
			continue
		}
		add(func(s *impl.Path) { s.Regs[k%4] = u })
		add(func(s *impl.Path) { s.Mem[k%p.Mem] = u })
		add(func(s *impl.Path) { s.Out = append(repeatedTerm(zero, k%6), u) })
		if u.W != 1 || !impl.TermOk(u) {
			add(func(s *impl.Path) { s.Cond = append(repeatedTerm(constant(1, 1), k%60), u) })
		}
	}
	add(func(s *impl.Path) { s.Stack = make([]int, 4) })
	add(func(s *impl.Path) { s.Out = repeatedTerm(zero, 7) })
	add(func(s *impl.Path) { s.Cond = repeatedTerm(constant(1, 1), 61) })
	add(func(s *impl.Path) { s.Cond = []impl.Term{variable(2, "i0")} })
	add(func(s *impl.Path) { s.Turns = make([]int, 61) })
	return l
}
