package tests

import (
	"slices"
	"strings"
	"testing"

	"loop.example/g03219/impl"
)

const mergeProgram = "3 2 2|in r0|in r1|out r0|halt"

// pathWith returns the path of a text after changes, which are pairs of an index of a part and what takes its place.
func pathWith(text string, changes ...any) string {
	parts := strings.Split(text, "|")
	for k := 0; k < len(changes); k += 2 {
		parts[changes[k].(int)] = changes[k+1].(string)
	}
	return strings.Join(parts, "|")
}

// These are the indices of the parts of a path's text.
const (
	pcPart, regsPart, memPart, stackPart, inPart = 0, 1, 2, 3, 4
	outPart, codePart, stepsPart, condPart       = 5, 6, 7, 8
	turnsPart                                    = 9
)

func TestP8MergePaths(t *testing.T) {
	p := readProgram(t, mergeProgram)
	base := "1|a:3, 3:2, b:3, 3:0|m:3, 3:6|4 0|1|3:7, i0:3|0|9|c:1|1"
	with := func(changes ...any) string { return pathWith(base, changes...) }
	for _, c := range []struct{ a, b, want string }{
		// A path with itself.
		{base, base, base}, {zeroWith(3, 2), zeroWith(3, 2), zeroWith(3, 2)}, {with(condPart, ""), with(condPart, ""), with(condPart, "")}, {with(condPart, "1:1, 1:0, (not (not c:1))"), with(condPart, "1:1, 1:0, (not (not c:1))"), with(condPart, "1:1, 1:0, (not (not c:1))")},
		{with(regsPart, "(sub a:3 a:3), 3:2, b:3, 3:0"), with(regsPart, "(sub a:3 a:3), 3:2, b:3, 3:0"), with(regsPart, "(sub a:3 a:3), 3:2, b:3, 3:0")},
		// Equal conditions: the words of the first one.
		{base, with(regsPart, "b:3, 3:3, a:3, 3:0"), base}, {with(regsPart, "b:3, 3:3, a:3, 3:0", memPart, "3:1, m:3", outPart, "i1:3, 3:0"), base, with(regsPart, "b:3, 3:3, a:3, 3:0", memPart, "3:1, m:3", outPart, "i1:3, 3:0")},
		{with(condPart, "", regsPart, "3:1, 3:2, 3:3, 3:4"), with(condPart, "", regsPart, "3:4, 3:3, 3:2, 3:1"), with(condPart, "", regsPart, "3:1, 3:2, 3:3, 3:4")},
		// One begins with the other: nothing is added to what both have.
		{base, with(condPart, "c:1, d:1"), base}, {with(condPart, "c:1, d:1"), base, base}, {with(condPart, ""), base, with(condPart, "")}, {base, with(condPart, ""), with(condPart, "")}, {with(condPart, "c:1, d:1, e:1, f:1"), with(condPart, "c:1, d:1"), with(condPart, "c:1, d:1")},
		{base, with(condPart, "c:1, d:1", regsPart, "3:1, 3:2, b:3, 3:0"), base}, {with(condPart, "c:1, d:1", regsPart, "3:1, 3:2, b:3, 3:0"), base, with(regsPart, "(if d:1 3:1 a:3), 3:2, b:3, 3:0")},
		{with(condPart, "c:1, d:1, e:1", memPart, "3:1, 3:6"), base, with(memPart, "(if (and d:1 e:1) 3:1 m:3), 3:6")},
		// Nothing in common.
		{base, with(condPart, "d:1"), with(condPart, "(or c:1 d:1)")}, {with(condPart, "d:1"), base, with(condPart, "(or c:1 d:1)")}, {base, with(condPart, "(not c:1)"), with(condPart, "(or (not c:1) c:1)")}, {with(condPart, "d:1, c:1"), base, with(condPart, "(or (and c:1 d:1) c:1)")},
		{with(condPart, "c:1, d:1, e:1"), with(condPart, "f:1, g:1"), with(condPart, "(or (and (and c:1 d:1) e:1) (and f:1 g:1))")},
		// Some in common; what comes later in both does not count.
		{with(condPart, "c:1, d:1"), with(condPart, "c:1, e:1"), with(condPart, "c:1, (or d:1 e:1)")}, {with(condPart, "c:1, d:1, f:1"), with(condPart, "c:1, e:1, f:1"), with(condPart, "c:1, (or (and d:1 f:1) (and e:1 f:1))")}, {with(condPart, "c:1, g:1, d:1"), with(condPart, "c:1, g:1, e:1, f:1"), with(condPart, "c:1, g:1, (or (and e:1 f:1) d:1)")},
		{with(condPart, "c:1, d:1"), with(condPart, "d:1, c:1"), with(condPart, "(and c:1 d:1)")}, {with(condPart, "1:1, c:1"), base, with(condPart, "c:1")}, {with(condPart, "(not (not c:1))"), base, with(condPart, "(or (not (not c:1)) c:1)")},
		// The term that says which one is a constant, or OpNot of another one.
		{with(condPart, "1:1", regsPart, "3:1, 3:2, 3:3, c:3"), with(condPart, "d:1"), with(condPart, "", regsPart, "3:1, 3:2, 3:3, c:3")}, {with(condPart, "d:1", regsPart, "3:1, 3:2, b:3, 3:0"), with(condPart, "1:1"), with(condPart, "", regsPart, "(if d:1 3:1 a:3), 3:2, b:3, 3:0")},
		{with(condPart, "1:0", regsPart, "3:1, 3:2, 3:3, c:3"), with(condPart, "d:1"), with(condPart, "d:1")}, {with(condPart, "d:1", outPart, "3:1, e:3"), with(condPart, "1:0"), with(condPart, "d:1", outPart, "(if d:1 3:1 3:7), (if d:1 e:3 i0:3)")}, {with(condPart, "1:0"), with(condPart, "d:1, 1:0"), with(condPart, "1:0")}, {with(condPart, "1:1, 1:1"), with(condPart, "1:1, d:1"), with(condPart, "1:1")},
		{with(condPart, "(not c:1)", regsPart, "3:1, 3:2, b:3, 3:0"), with(condPart, "c:1"), with(condPart, "(or (not c:1) c:1)", regsPart, "(if c:1 a:3 3:1), 3:2, b:3, 3:0")}, {with(condPart, "c:1, (not d:1)", regsPart, "3:1, 3:2, b:3, 3:0"), with(condPart, "c:1, e:1"), with(condPart, "c:1, (or (not d:1) e:1)", regsPart, "(if d:1 a:3 3:1), 3:2, b:3, 3:0")},
		// Each register, cell and output for itself.
		{with(condPart, "x:1", regsPart, "a:3, 3:2, b:3, 3:1"), with(condPart, "y:1"), with(condPart, "(or x:1 y:1)", regsPart, "a:3, 3:2, b:3, (if x:1 3:1 3:0)")}, {with(condPart, "x:1", memPart, "m:3, 3:5"), with(condPart, "y:1"), with(condPart, "(or x:1 y:1)", memPart, "m:3, (if x:1 3:5 3:6)")}, {with(condPart, "x:1", outPart, "3:7, i1:3"), with(condPart, "y:1"), with(condPart, "(or x:1 y:1)", outPart, "3:7, (if x:1 i1:3 i0:3)")},
		{
			with(condPart, "x:1", regsPart, "3:1, 3:3, (not b:3), i0:3", memPart, "i1:3, 3:0", outPart, "3:0, (neg i0:3)"), with(condPart, "y:1"),
			with(condPart, "(or x:1 y:1)", regsPart, "(if x:1 3:1 a:3), (if x:1 3:3 3:2), (if x:1 (not b:3) b:3), (if x:1 i0:3 3:0)", memPart, "(if x:1 i1:3 m:3), (if x:1 3:0 3:6)", outPart, "(if x:1 3:0 3:7), (if x:1 (neg i0:3) i0:3)"),
		},
		// Terms that stand for the same word, but are not equal.
		{with(condPart, "x:1", regsPart, "(add a:3 3:0), 3:2, b:3, 3:0"), with(condPart, "y:1"), with(condPart, "(or x:1 y:1)", regsPart, "(if x:1 (add a:3 3:0) a:3), 3:2, b:3, 3:0")},
		// Turns.
		{with(turnsPart, "1 0 1"), with(turnsPart, "1 0 0"), with(turnsPart, "1 0")}, {with(turnsPart, "1 0 1"), with(turnsPart, "1 0"), with(turnsPart, "1 0")}, {with(turnsPart, "1 0"), with(turnsPart, "1 0 1 1"), with(turnsPart, "1 0")}, {with(turnsPart, "1 0 1"), with(turnsPart, "0 0 1"), with(turnsPart, "")}, {with(turnsPart, ""), with(turnsPart, "0 0 1"), with(turnsPart, "")}, {with(turnsPart, "0"), with(turnsPart, ""), with(turnsPart, "")}, {with(turnsPart, "0 1 1"), with(turnsPart, "0 0 1"), with(turnsPart, "0")},
		// Steps.
		{with(stepsPart, "10"), base, with(stepsPart, "10")}, {base, with(stepsPart, "10"), with(stepsPart, "10")}, {with(stepsPart, "0"), with(stepsPart, "400"), with(stepsPart, "400")}, {with(stepsPart, "400"), with(stepsPart, "399"), with(stepsPart, "400")},
		// Codes and places of all kinds.
		{with(codePart, "9", condPart, "d:1"), with(codePart, "9"), with(codePart, "9", condPart, "(or c:1 d:1)")}, {with(codePart, "1", pcPart, "4"), with(codePart, "1", pcPart, "4"), with(codePart, "1", pcPart, "4")}, {with(stackPart, "", outPart, ""), with(stackPart, "", outPart, "", turnsPart, "0"), with(stackPart, "", outPart, "", turnsPart, "")},
	} {
		a, b := readPath(t, c.a), readPath(t, c.b)
		got, ok := impl.MergePaths(p, a, b)
		if !ok || textOfPath(got) != c.want {
			t.Errorf("MergePaths(%s, %s) = %s, %v, want %s", c.a, c.b, textOfPath(got), ok, c.want)
		}
	}
}

// zeroWith is the text of the path with which a program with words of w bits and so many cells begins.
func zeroWith(w, mem int) string {
	return textOfPath(slowStartPath(impl.Program{W: w, Mem: mem}))
}

// TestP8MergePathsThatDiffer has paths that differ in one thing alone, for which they cannot be merged.
func TestP8MergePathsThatDiffer(t *testing.T) {
	p := readProgram(t, mergeProgram)
	base := "1|a:3, 3:2, b:3, 3:0|m:3, 3:6|4 0|1|3:7, i0:3|0|9|c:1|1"
	for _, c := range []struct {
		part  int
		texts []string
	}{
		{pcPart, []string{"0", "2", "4"}}, {stackPart, []string{"", "4", "0", "0 4", "4 1", "4 0 0"}}, {inPart, []string{"0", "2"}}, {outPart, []string{"", "3:7", "i0:3", "3:7, i0:3, 3:0"}}, {codePart, []string{"1", "2", "3", "4", "5", "6", "7", "8", "9"}},
	} {
		for _, text := range c.texts {
			a, b := readPath(t, base), readPath(t, pathWith(base, c.part, text))
			mustNotMerge(t, p, a, b)
			mustNotMerge(t, p, b, a)
			if _, ok := impl.MergePaths(p, b, b); !ok {
				t.Errorf("MergePaths of %s and itself fails", textOfPath(b))
			}
		}
	}
}

func mustNotMerge(t *testing.T, p impl.Program, a, b impl.Path) {
	t.Helper()
	if got, ok := impl.MergePaths(p, a, b); ok || !noPath(got) {
		t.Errorf("MergePaths(%.2000s, %.2000s) = %.2000s, %v", dumpPath(a), dumpPath(b), dumpPath(got), ok)
	}
}

// flag returns a term of width 1 with n nodes.
func flag(n int, name string) impl.Term {
	if n == 1 {
		return variable(1, name)
	}
	return node(impl.OpNeg, 1, 0, flag(n-1, name))
}

// TestP8MergePathsOfBigTerms has terms with just enough room, and of one node more.
func TestP8MergePathsOfBigTerms(t *testing.T) {
	p := readProgram(t, mergeProgram)
	base := readPath(t, "1|a:3, 3:2, b:3, 3:0|m:3, 3:6|4 0|1|3:7, i0:3|0|9|k:1|1")
	conds := func(l ...impl.Term) impl.Path {
		return changedPath(base, func(s *impl.Path) { s.Cond = append(s.Cond, l...) })
	}
	// With the condition x alone, each OpIf has 2 nodes and those of its kids.
	x, y := conds(flag(1, "x")), conds(flag(1, "y"))
	in := func(s impl.Path, terms func(s impl.Path) []impl.Term, k, n int) impl.Path {
		s = copyOfPath(s)
		terms(s)[k] = sized(3, n)
		return s
	}
	regs := func(s impl.Path) []impl.Term { return s.Regs }
	mem := func(s impl.Path) []impl.Term { return s.Mem }
	out := func(s impl.Path) []impl.Term { return s.Out }
	for _, c := range []struct {
		name string
		a, b impl.Path
		ok   bool
	}{
		// AllOf of one term makes a term with two nodes more first, also where nothing of it is left.
		{"a term behind what both have, in the first one", conds(flag(238, "x")), y, true}, {"the same with one node more", conds(flag(239, "x")), y, false}, {"the same in the second one", x, conds(flag(238, "y")), true}, {"one node more there", x, conds(flag(239, "y")), false},
		{"the first one has more", conds(flag(238, "x")), base, true}, {"the first one has more, and one node more", conds(flag(239, "x")), base, false}, {"the second one has more", base, conds(flag(238, "x")), true}, {"the second one has more, and one node more", base, conds(flag(239, "x")), false},
		{"a big term that both have", conds(flag(240, "x"), flag(1, "x")), conds(flag(240, "x"), flag(1, "y")), true}, {"a big term that both have, but not at the beginning", conds(flag(1, "x"), flag(240, "z")), conds(flag(1, "y"), flag(240, "z")), false},
		{"OpAnd of two terms", conds(flag(100, "x"), flag(137, "y")), y, true}, {"OpAnd of two terms, and OpOr of it and 1", conds(flag(100, "x"), flag(137, "y")), base, true}, {"OpAnd of two terms, and OpOr of it and 1 with one node more", conds(flag(100, "x"), flag(138, "y")), base, false}, {"OpAnd of two terms, with one node more", conds(flag(101, "x"), flag(139, "y")), base, false}, {"OpOr beside OpAnd of two terms", conds(flag(100, "x"), flag(138, "y")), y, false},
		{"OpOr of two terms", conds(flag(119, "x")), conds(flag(120, "y")), true}, {"OpOr with one node more", conds(flag(120, "x")), conds(flag(120, "y")), false}, {"OpOr with one node more in the second one", conds(flag(119, "x")), conds(flag(121, "y")), false},
		{"a register", in(x, regs, 0, 237), y, true}, {"a register of one node more", in(x, regs, 0, 238), y, false}, {"the last register", in(x, regs, 3, 237), y, true}, {"the last register, of one node more", in(x, regs, 3, 238), y, false}, {"a register of the second one", x, in(y, regs, 1, 237), true}, {"a register of the second one, of one node more", x, in(y, regs, 1, 238), false},
		{"a cell", in(x, mem, 0, 237), y, true}, {"a cell of one node more", in(x, mem, 0, 238), y, false}, {"the last cell of the second one", x, in(y, mem, 1, 237), true}, {"the last cell of the second one, of one node more", x, in(y, mem, 1, 238), false},
		{"an output", in(x, out, 0, 237), y, true}, {"an output of one node more", in(x, out, 0, 238), y, false}, {"the last output of the second one", x, in(y, out, 1, 237), true}, {"the last output of the second one, of one node more", x, in(y, out, 1, 238), false},
		{"equal big registers", in(x, regs, 2, 240), in(y, regs, 2, 240), true}, {"both registers", in(x, regs, 2, 119), in(y, regs, 2, 119), true}, {"big registers and a big condition", in(conds(flag(100, "x")), regs, 2, 138), y, true}, {"big registers and a big condition, one node more", in(conds(flag(101, "x")), regs, 2, 138), y, false},
		{"a condition that is a constant leaves a register", in(base, regs, 0, 237), y, true}, {"OpIf of a constant must be valid too", in(base, regs, 0, 238), y, false},
	} {
		got, ok := impl.MergePaths(p, c.a, c.b)
		want, fine := slowMerge(c.a, c.b)
		if ok != c.ok || fine != c.ok || textOfPath(got) != textOfPath(want) && !(noPath(got) && !ok) {
			t.Errorf("%s: MergePaths = %.1000s, %v, want %v", c.name, textOfPath(got), ok, c.ok)
		}
	}
}

// TestP8MergePathsOfClashes has variables that have another width in another term.
func TestP8MergePathsOfClashes(t *testing.T) {
	p := readProgram(t, mergeProgram)
	base := "1|a:3, 3:2, b:3, 3:0|m:3, 3:6|4 0|1|3:7, i0:3|0|9|c:1|1"
	with := func(changes ...any) string { return pathWith(base, changes...) }
	for _, c := range []struct {
		a, b string
		ok   bool
	}{
		{with(condPart, "c:1, v:1"), with(condPart, "c:1, (eq 2:0 v:2)"), false}, {with(condPart, "c:1, v:1, (eq 2:0 v:2)"), base, false}, {base, with(condPart, "c:1, v:1, (eq 2:0 v:2)"), false}, {with(condPart, "v:1"), with(condPart, "d:1", regsPart, "v:3, 3:2, b:3, 3:0"), false}, {with(condPart, "d:1"), with(condPart, "v:1", regsPart, "v:3, 3:2, b:3, 3:0"), true},
		{with(condPart, "v:1", memPart, "v:3, 3:6"), with(condPart, "d:1"), false}, {with(condPart, "v:1", outPart, "3:7, v:3"), with(condPart, "d:1"), false}, {with(condPart, "d:1", regsPart, "(grow 3 v:2), 3:2, b:3, 3:0"), with(condPart, "e:1", regsPart, "v:3, 3:2, b:3, 3:0"), false},
		// Terms that are not put together.
		{with(condPart, "v:1, (eq 2:0 v:2), d:1"), with(condPart, "v:1, (eq 2:0 v:2), e:1"), true}, {with(condPart, "d:1", regsPart, "v:3, 3:2, b:3, 3:1", memPart, "(grow 3 v:2), 3:6"), with(condPart, "e:1", regsPart, "v:3, 3:2, b:3, 3:0", memPart, "(grow 3 v:2), 3:6"), true}, {with(condPart, "v:1", regsPart, "v:3, 3:2, b:3, 3:0"), with(condPart, "d:1", regsPart, "v:3, 3:2, b:3, 3:0"), true},
	} {
		a, b := readPath(t, c.a), readPath(t, c.b)
		got, ok := impl.MergePaths(p, a, b)
		if ok != c.ok || ok != impl.PathOk(p, got) {
			t.Errorf("MergePaths(%s, %s) = %s, %v", c.a, c.b, textOfPath(got), ok)
		}
		if !ok {
			mustNotMerge(t, p, a, b)
		}
	}
}

// TestP8MergePathsWithManyConditions has as many conditions as there may be.
func TestP8MergePathsWithManyConditions(t *testing.T) {
	p := readProgram(t, mergeProgram)
	base := readPath(t, "1|a:3, 3:2, b:3, 3:0|m:3, 3:6||1||0|9||")
	conds := func(n int, l ...impl.Term) impl.Path {
		return changedPath(base, func(s *impl.Path) {
			s.Cond = append(repeatedTerm(variable(1, "c"), n), l...)
			s.Turns = repeated(1, len(s.Cond))
		})
	}
	d, e := variable(1, "d"), variable(1, "e")
	for _, c := range []struct {
		a, b impl.Path
		want string
	}{
		// There would be one more than MaxConds, but what is added is the constant 1.
		{conds(60), conds(60), strings.Repeat("c:1, ", 59) + "c:1"},
		{conds(59, d), conds(59, d), strings.Repeat("c:1, ", 59) + "d:1"}, {conds(59, d), conds(59, e), strings.Repeat("c:1, ", 59) + "(or d:1 e:1)"}, {conds(60), conds(59), strings.Repeat("c:1, ", 58) + "c:1"}, {conds(59), conds(59, d), strings.Repeat("c:1, ", 58) + "c:1"},
		{conds(60), conds(58, d, e), strings.Repeat("c:1, ", 58) + "(or (and d:1 e:1) c:1)"}, {conds(0, repeatedTerm(d, 60)...), conds(60), "(or c:1 d:1)"}, {conds(60), conds(0), ""}, {conds(0), conds(60), ""},
	} {
		got, ok := impl.MergePaths(p, c.a, c.b)
		if !ok || textOfTerms(got.Cond) != c.want {
			t.Errorf("MergePaths of paths with %d and %d conditions = %s, %v, want %s", len(c.a.Cond), len(c.b.Cond), textOfPath(got), ok, c.want)
		}
		if n := min(len(c.a.Turns), len(c.b.Turns)); !slices.Equal(got.Turns, repeated(1, n)) {
			t.Errorf("MergePaths of paths with %d and %d turns has the turns %v", len(c.a.Turns), len(c.b.Turns), got.Turns)
		}
	}
}

// TestP8MergePathsOfAny compares with the document's text, and with the words for all inputs.
func TestP8MergePathsOfAny(t *testing.T) {
	m := maker{state: 337}
	done, failed, both := 0, 0, 0
	for _, p := range forkingPrograms(250) {
		for range 24 {
			a, b := m.relatives(p)
			want, fine := slowMerge(a, b)
			got, ok := impl.MergePaths(p, a, b)
			if ok != fine || ok && textOfPath(got) != textOfPath(want) || !ok && !noPath(got) {
				t.Errorf("MergePaths(%s, %s) = %s, %v, want %s, %v", textOfPath(a), textOfPath(b), textOfPath(got), ok, textOfPath(want), fine)
			}
			if !ok {
				failed++
				continue
			}
			if !impl.PathOk(p, got) {
				t.Errorf("MergePaths(%s, %s) is not valid: %s", textOfPath(a), textOfPath(b), textOfPath(got))
			}
			done++
			both += mustHoldForBoth(t, p, a, b, got)
		}
	}
	if done < 3000 || failed < 500 || both < 3000 {
		t.Errorf("only %d paths merged, %d not, and %d inputs for which both hold", done, failed, both)
	}
}

// mustHoldForBoth fails the test unless a merged path holds for the inputs of both paths, with the words of the first one that holds; it returns for how many inputs both hold.
func mustHoldForBoth(t *testing.T, p impl.Program, a, b, merged impl.Path) int {
	t.Helper()
	both := 0
	if !readsOnly(p, slices.Concat(a.Cond, b.Cond, a.Regs, b.Regs, a.Mem, b.Mem, a.Out, b.Out)) {
		return 0
	}
	for _, in := range allWords(p) {
		first, second := slowHolds(p, a, in), slowHolds(p, b, in)
		if first && second {
			both++
		}
		if impl.HoldsPath(p, merged, in) != (first || second) {
			t.Errorf("MergePaths(%s, %s) holds for %v: %v", textOfPath(a), textOfPath(b), in, !first && !second)
		}
		if !first && !second || merged.Code == impl.CodeBig {
			continue
		}
		state, _ := slowEval(p, b, in)
		if first {
			state, _ = slowEval(p, a, in)
		}
		state.Steps = max(a.Steps, b.Steps)
		if got, ok := impl.EvalPath(p, merged, in); !ok || textOfState(got) != textOfState(state) {
			t.Errorf("MergePaths(%s, %s) has the state %s for %v, want %s", textOfPath(a), textOfPath(b), textOfState(got), in, textOfState(state))
		}
	}
	return both
}

func TestP8MergePathsInvalid(t *testing.T) {
	p := impl.Program{W: 3, Mem: 2, In: 1, Code: []impl.Ins{ins(5, 0, 0, 0), ins(10, 0, 3, 0), ins(14, 0, 0, 0)}}
	good := slowStartPath(p)
	for _, s := range badPaths(p) {
		mustNotMerge(t, p, s, good)
		mustNotMerge(t, p, good, s)
		mustNotMerge(t, p, s, s)
	}
	for _, q := range badPrograms() {
		mustNotMerge(t, q, good, good)
		mustNotMerge(t, q, impl.Path{}, impl.Path{})
	}
	if got, ok := impl.MergePaths(p, good, good); !ok || textOfPath(got) != textOfPath(good) {
		t.Errorf("MergePaths of the first path and itself = %s, %v", textOfPath(got), ok)
	}
}
