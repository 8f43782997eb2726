package tests

import (
	"math"
	"slices"
	"strconv"
	"strings"
	"testing"

	"loop.example/g03219/impl"
)

func fact(kind, a, b, n int) impl.Fact {
	return impl.Fact{Kind: kind, A: a, B: b, N: n}
}

// allFacts are all facts of programs with words of w bits, ordered by Kind, A, B and N.
func allFacts(w int) []impl.Fact {
	var l []impl.Fact
	pairs := func(add func(a, b int), fit func(a, b int) bool) {
		for a := range 4 {
			for b := range 4 {
				if fit(a, b) {
					add(a, b)
				}
			}
		}
	}
	less := func(a, b int) bool { return a < b }
	words := power(w)
	for k := range 4 * words {
		l = append(l, fact(1, k/words, 0, k%words))
	}
	pairs(func(a, b int) { l = append(l, fact(2, a, b, 0)) }, less)
	for k := range 4 * (words - 1) {
		l = append(l, fact(3, k/(words-1), 0, k%(words-1)))
	}
	for k := range 8 * w {
		l = append(l, fact(4, k/(2*w), k/2%w, k%2))
	}
	pairs(func(a, b int) {
		for n := range words {
			l = append(l, fact(5, a, b, n))
		}
	}, less)
	pairs(func(a, b int) { l = append(l, fact(6, a, b, 0)) }, func(a, b int) bool { return a != b })
	return l
}

// textOfFact is FormatFact of a fact, without the program's help.
func textOfFact(f impl.Fact) string {
	a, b, n := "r"+strconv.Itoa(f.A), " r"+strconv.Itoa(f.B), " "+strconv.Itoa(f.N)
	switch f.Kind {
	case 1:
		return a + " is" + n
	case 2:
		return a + " same" + b
	case 3:
		return a + " most" + n
	case 4:
		return a + " bit " + strconv.Itoa(f.B) + n
	case 5:
		return a + " sum" + b + n
	}
	return a + " order" + b
}

func textOfFacts(l []impl.Fact) string {
	var texts []string
	for _, f := range l {
		texts = append(texts, textOfFact(f))
	}
	return strings.Join(texts, ", ")
}

// factsByText are the facts of programs with words of w bits by their texts.
func factsByText(w int) map[string]impl.Fact {
	facts := map[string]impl.Fact{}
	for _, f := range allFacts(w) {
		facts[textOfFact(f)] = f
	}
	return facts
}

// readFacts returns the facts of a text as textOfFacts writes it.
func readFacts(t *testing.T, w int, s string) []impl.Fact {
	t.Helper()
	var l []impl.Fact
	if s == "" {
		return nil
	}
	facts := factsByText(w)
	for _, text := range strings.Split(s, ", ") {
		f, ok := facts[text]
		if !ok {
			t.Fatalf("%q is no fact", text)
		}
		l = append(l, f)
	}
	return l
}

// slowTrue reports whether a fact is true of words.
func slowTrue(w int, f impl.Fact, regs []int) bool {
	x := regs[f.A]
	switch f.Kind {
	case 1:
		return x == f.N
	case 2:
		return x == regs[f.B]
	case 3:
		return x <= f.N
	case 4:
		return x/power(f.B)%2 == f.N
	case 5:
		return (x+regs[f.B])%power(w) == f.N
	}
	return x <= regs[f.B]
}

// slowFactTerm is FactTerm of a fact and four valid terms, word for word; it panics with tooBig where that fails.
func slowFactTerm(w int, f impl.Fact, regs []impl.Term) impl.Term {
	x, n := regs[f.A], constant(w, f.N)
	switch f.Kind {
	case 1:
		return slowMake(impl.OpEq, 1, n, x)
	case 2:
		return slowMake(impl.OpEq, 1, x, regs[f.B])
	case 3:
		return slowMake(impl.OpNot, 1, slowMake(impl.OpLess, 1, n, x))
	case 4:
		bit, ok := impl.MakeTerm(impl.OpCut, 1, f.B, []impl.Term{x})
		if !ok {
			panic(tooBig)
		}
		return slowMake(impl.OpEq, 1, constant(1, f.N), bit)
	case 5:
		return slowMake(impl.OpEq, 1, n, slowMake(impl.OpAdd, w, x, regs[f.B]))
	}
	return slowMake(impl.OpNot, 1, slowMake(impl.OpLess, 1, regs[f.B], x))
}

// slowCandidates is CandidateFacts of valid states, word for word.
func slowCandidates(w int, l []impl.State) []impl.Fact {
	var facts []impl.Fact
	if len(l) == 0 {
		return nil
	}
	for _, f := range allFacts(w) {
		if slices.ContainsFunc(l, func(s impl.State) bool { return !slowTrue(w, f, s.Regs) }) {
			continue
		}
		last := len(facts) - 1
		if f.Kind == 3 && last >= 0 && facts[last].Kind == 3 && facts[last].A == f.A {
			continue
		}
		facts = append(facts, f)
	}
	return facts
}

// A slowLoop is a place of a valid program without calls, with valid limits.
type slowLoop struct {
	p              impl.Program
	pc, fuel, most int
}

// ends explores from a path. A path that arrives is an end at once.
func (x slowLoop) ends(first impl.Path, arrives func(s impl.Path) bool, next func(s impl.Path) []impl.Path) ([]impl.Path, bool) {
	var ends []impl.Path
	fine := true
	var from func(s impl.Path, left int)
	from = func(s impl.Path, left int) {
		if len(ends) > x.most {
			return
		}
		after := next(s)
		switch {
		case s.Code == 0 && s.Pc == x.pc && arrives(s):
			ends = append(ends, s)
		case left == 0 || len(after) == 0:
			ends = append(ends, s)
			fine = fine && s.Code != 0 && s.Code != 9
		default:
			for _, s := range after {
				from(s, left-1)
			}
		}
	}
	from(first, x.fuel)
	if !fine || len(ends) > x.most {
		return nil, false
	}
	return ends, true
}

// entry is EntryPaths, word for word.
func (x slowLoop) entry() ([]impl.Path, bool) {
	return x.ends(slowStartPath(x.p), func(impl.Path) bool { return true }, func(s impl.Path) []impl.Path { return slowPaths(x.p, s) })
}

// body is BodyPaths of facts of the program, word for word.
func (x slowLoop) body(l []impl.Fact) ([]impl.Path, bool) {
	first := unknownState(x.p, x.pc)
	for _, f := range l {
		if c := slowFactTerm(x.p.W, f, first.Regs); textOf(c) != "1:1" {
			first.Cond = append(first.Cond, c)
		}
	}
	if len(first.Cond) > 60 {
		return nil, false
	}
	return x.ends(first, func(s impl.Path) bool { return s.Steps > 0 }, func(s impl.Path) []impl.Path {
		op := opAt(x.p, s)
		if op != 5 && op != 6 || s.Steps == 400 {
			return slowPaths(x.p, s)
		}
		s = copyOfPath(s)
		if op == 5 {
			s.Regs[x.p.Code[s.Pc].A] = variable(x.p.W, "x"+strconv.Itoa(s.Steps))
		}
		s.Pc++
		s.Steps++
		return []impl.Path{s}
	})
}

// kept returns the facts that are kept by all of some paths that arrive.
func (x slowLoop) kept(l []impl.Fact, ends []impl.Path, limit int) []impl.Fact {
	var stay []impl.Fact
	for _, f := range l {
		goes := false
		for _, s := range ends {
			if s.Code != 0 {
				continue
			}
			code := 0
			caught(func() {
				code, _ = impl.HoldsTerm(slowMake(impl.OpOr, 1, slowMake(impl.OpNot, 1, slowAll(s.Cond)), slowFactTerm(x.p.W, f, s.Regs)), limit)
			})
			goes = goes || code != impl.SatYes
		}
		if !goes {
			stay = append(stay, f)
		}
	}
	return stay
}

// keep is KeepFacts of facts of the program, word for word. It tells also how often BodyPaths was asked.
func (x slowLoop) keep(l []impl.Fact, limit int) ([]impl.Fact, int, bool) {
	ends, ok := x.entry()
	if !ok {
		return nil, 0, false
	}
	stay := x.kept(l, ends, limit)
	for looks := 1; ; looks++ {
		ends, ok := x.body(stay)
		if !ok {
			return nil, looks, false
		}
		before := stay
		stay = x.kept(stay, ends, limit)
		if len(stay) == len(before) {
			return stay, looks, true
		}
	}
}

// safe is SafeChecks of facts of the program, word for word.
func (x slowLoop) safe(l []impl.Fact, limit int) bool {
	stay, _, ok := x.keep(l, limit)
	if !ok || !slices.Equal(stay, l) {
		return false
	}
	entry, _ := x.entry()
	body, _ := x.body(l)
	for _, s := range slices.Concat(entry, body) {
		if s.Code != 8 {
			continue
		}
		code := 0
		caught(func() { code, _ = impl.SolveTerm(slowAll(s.Cond), limit) })
		if code != impl.SatNo {
			return false
		}
	}
	return true
}

// slowVisits is VisitsOf of valid arguments, word for word.
func slowVisits(p impl.Program, in []int, fuel, pc int) []impl.State {
	var l []impl.State
	for steps := range fuel + 1 {
		s := impl.RunProgram(p, in, steps)
		again := len(l) > 0 && textOfState(l[len(l)-1]) == textOfState(s)
		if s.Pc == pc && s.Code == 0 && !again {
			l = append(l, s)
		}
	}
	return l
}

func textOfStates(l []impl.State) string {
	var texts []string
	for _, s := range l {
		texts = append(texts, textOfState(s))
	}
	return strings.Join(texts, " & ")
}

// loopIns makes an instruction of a loop's body, in which jumps lead ahead.
func (m *maker) loopIns(p impl.Program, at, behind int) impl.Ins {
	for {
		i := m.forkingIns(p.W, behind)
		switch i.Op {
		case impl.InsCall, impl.InsRet, impl.InsHalt:
			continue
		case impl.InsJump, impl.InsZero:
			i.B = at + 1 + m.below(behind-at)
		}
		return i
	}
}

// loopingPrograms read inputs of at most 6 bits together, and have a loop; most of its runs end. The place of its head comes with each.
func loopingPrograms(n int) ([]impl.Program, []int) {
	m := maker{state: 421}
	var l []impl.Program
	var heads []int
	for len(l) < n {
		p := impl.Program{W: 2 + m.below(2), Mem: 1 + m.below(2), In: m.below(3)}
		for k := range p.In {
			if m.below(4) > 0 {
				p.Code = append(p.Code, ins(impl.InsIn, k, 0, 0))
			}
		}
		for range m.below(3) {
			p.Code = append(p.Code, ins(impl.InsSet, m.below(4), m.below(power(p.W)), 0))
		}
		if m.below(3) == 0 {
			p.Code = append(p.Code, m.loopIns(p, len(p.Code), len(p.Code)+1))
		}
		head, body := len(p.Code), 1+m.below(5)
		exit, counter := head+body+4, m.below(4)
		p.Code = append(p.Code, ins(impl.InsZero, counter, exit, 0))
		for k := range body {
			p.Code = append(p.Code, m.loopIns(p, head+1+k, exit))
		}
		step := (counter + 1 + m.below(3)) % 4
		p.Code = append(p.Code, ins(impl.InsSet, step, 1, 0), ins(impl.InsOp, counter, step, impl.OpSub), ins(impl.InsJump, 0, head, 0))
		if m.below(2) == 0 {
			p.Code = append(p.Code, ins(impl.InsCheck, m.below(4), 0, 0))
		}
		p.Code = append(p.Code, ins(impl.InsHalt, 0, 0, 0))
		l, heads = append(l, p), append(heads, head)
	}
	return l, heads
}

// facts makes facts of a program, some of them twice.
func (m *maker) facts(w, n int) []impl.Fact {
	all := allFacts(w)
	var l []impl.Fact
	for range n {
		l = append(l, all[m.below(len(all))])
	}
	if n > 0 && m.below(4) == 0 {
		l = append(l, l[0])
	}
	return l
}

// visitsOfAll are the states of some runs at a place, for which CandidateFacts has something to say.
func visitsOfAll(p impl.Program, tests [][]int, pc int) []impl.State {
	var l []impl.State
	for _, in := range tests {
		l = append(l, slowVisits(p, in, 400, pc)...)
	}
	return l
}

// badFacts are facts of no program with words of w bits, each for one reason only.
func badFacts(w int) []impl.Fact {
	l := []impl.Fact{{}}
	for _, n := range append([]int{4, 5, 6, 7, w, w + 1, power(w) - 1, power(w)}, oddInts...) {
		for kind := range 8 {
			l = append(l, fact(kind, n, 0, 0), fact(kind, 0, n, 0), fact(kind, 0, 1, n), fact(kind, 0, 0, n), fact(kind, 1, n, 1), fact(kind, n, 3, 1))
		}
		l = append(l, fact(n, 0, 1, 0), fact(n, 1, 0, 0), fact(n, 0, 0, 0))
	}
	good := allFacts(w)
	return slices.DeleteFunc(l, func(f impl.Fact) bool { return slices.Contains(good, f) })
}

var badPlaces = []int{-1, -2, 1 << 32, math.MinInt, math.MaxInt}
