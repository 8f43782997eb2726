package tests

import (
	"slices"
	"testing"

	"loop.example/g03219/impl"
)

// slowSolve is SolveTerm for a valid term of width 1 and a limit, word for word; it returns the splits, too.
func slowSolve(u impl.Term, limit int) (int, []impl.Value, int) {
	c, number, ok := slowCircuitOf(u)
	if !ok {
		return impl.SatOpen, nil, 0
	}
	s := slowSearch{f: slowFormula(c, number[0]), limit: limit}
	code, model, _ := s.with(nil)
	if code != impl.SatYes {
		return code, nil, s.splits
	}
	var l []impl.Value
	line := 1
	names, widths := widthsByName(u)
	for _, name := range names {
		n := 0
		for range widths[name] {
			n = 2*n + truth(model[line])
			line++
		}
		l = append(l, impl.Value{Name: name, W: widths[name], N: n})
	}
	return code, l, s.splits
}

// firstValues returns the first values for which a term is 1.
func firstValues(u impl.Term) ([]impl.Value, bool) {
	for _, l := range allValues(u) {
		if wordOf(u, wordsOf(l)) == 1 {
			return l, true
		}
	}
	return nil, false
}

func TestP6SolveTerm(t *testing.T) {
	for _, c := range []struct {
		term  string
		limit int
		code  int
		want  string
	}{
		{"1:1", 0, impl.SatYes, ""}, {"1:0", 0, impl.SatNo, ""}, {"(eq 3:5 (add 3:2 3:3))", 0, impl.SatYes, ""}, {"(less 3:5 (add 3:2 3:3))", 3000, impl.SatNo, ""},
		{"a:1", 0, impl.SatYes, "a:1=1"}, {"(not a:1)", 0, impl.SatYes, "a:1=0"}, {"(eq a:3 a:3)", 3, impl.SatYes, "a:3=0"}, {"(eq a:3 a:3)", 2, impl.SatOpen, ""}, {"(and a:1 (not a:1))", 0, impl.SatNo, ""}, {"(less a:3 a:3)", 50, impl.SatNo, ""},
		{"(eq 2:3 (add 2:1 a:2))", 50, impl.SatYes, "a:2=2"}, {"(eq a:4 4:11)", 0, impl.SatYes, "a:4=11"}, {"(less 4:11 a:4)", 50, impl.SatYes, "a:4=12"}, {"(below a:4 4:0)", 50, impl.SatYes, "a:4=8"}, {"(and (below a:4 4:0) (less 4:12 (neg (neg a:4))))", 50, impl.SatYes, "a:4=13"},
		{"(eq a:16 (not a:16))", 50, impl.SatOpen, ""}, {"(cut 3 1 a:16)", 15, impl.SatYes, "a:16=8"}, {"(cut 3 1 a:16)", 14, impl.SatOpen, ""}, {"(cut 3 1 (not a:16))", 15, impl.SatYes, "a:16=0"},
		// The highest bit of a variable comes first, and variables come by their names.
		{"(xor (cut 1 1 a:2) (cut 0 1 a:2))", 9, impl.SatYes, "a:2=1"}, {"(less a:2 b:2)", 50, impl.SatYes, "a:2=0 b:2=1"}, {"(less b:2 a:2)", 50, impl.SatYes, "a:2=1 b:2=0"}, {"(and (less c:2 b:2) (less b:2 a:2))", 50, impl.SatYes, "a:2=2 b:2=1 c:2=0"}, {"(or b:1 a:1)", 1, impl.SatYes, "a:1=0 b:1=1"}, {"(or b1:1 (or b:1 a9:1))", 2, impl.SatYes, "a9:1=0 b:1=0 b1:1=1"},
		{"(xor a:1 b:1)", 1, impl.SatYes, "a:1=0 b:1=1"}, {"(xor a:1 b:1)", 0, impl.SatOpen, ""}, {"(and a:1 b:1)", 0, impl.SatYes, "a:1=1 b:1=1"},
		{"(eq 4:9 (mul a:4 b:4))", 300, impl.SatYes, "a:4=1 b:4=9"}, {"(and (eq 6:35 (mul a:6 b:6)) (and (less 6:1 a:6) (and (less a:6 6:9) (less b:6 6:9))))", 3000, impl.SatYes, "a:6=5 b:6=7"}, {"(and (eq 4:3 (div a:4 b:4)) (eq 4:2 (rem a:4 b:4)))", 300, impl.SatYes, "a:4=11 b:4=3"}, {"(eq 3:6 (mul a:3 a:3))", 300, impl.SatNo, ""}, {"(eq 3:7 (div a:3 3:0))", 300, impl.SatYes, "a:3=0"}, {"(less (rem a:3 3:5) (div a:3 3:2))", 300, impl.SatYes, "a:3=5"},
		// There is no circuit.
		{"(eq 12:5 (mul a:12 b:12))", 3000, impl.SatOpen, ""}, {"(and 1:0 (eq 12:5 (mul a:12 b:12)))", 3000, impl.SatOpen, ""}, {"(eq a:16 16:5)", 3000, impl.SatOpen, ""}, {"(eq 16:5 16:5)", 0, impl.SatOpen, ""}, {"(and c:1 (and (cut 0 1 a:15) (cut 0 1 b:15)))", 3000, impl.SatOpen, ""}, {"(and (cut 0 1 a:15) (cut 0 1 b:15))", 3000, impl.SatYes, "a:15=1 b:15=1"}, {"(and (cut 0 1 a:15) (cut 0 1 b:15))", 27, impl.SatOpen, ""}, {"(and (cut 0 1 a:15) (cut 0 1 b:15))", 28, impl.SatYes, "a:15=1 b:15=1"},
	} {
		code, l := impl.SolveTerm(read(t, c.term), c.limit)
		if code != c.code || textOfValues(l) != c.want {
			t.Errorf("SolveTerm(%s, %d) = %d, %s, want %d, %s", c.term, c.limit, code, textOfValues(l), c.code, c.want)
		}
	}
}

func TestP6SolveAndHoldAreZeroForInvalid(t *testing.T) {
	check := func(u impl.Term, limit int) {
		t.Helper()
		if code, l := impl.SolveTerm(u, limit); code != 0 || len(l) != 0 {
			t.Errorf("SolveTerm(%.200s, %d) = %d, %v", dump(u), limit, code, l)
		}
		if code, l := impl.HoldsTerm(u, limit); code != 0 || len(l) != 0 {
			t.Errorf("HoldsTerm(%.200s, %d) = %d, %v", dump(u), limit, code, l)
		}
	}
	for _, u := range badTerms() {
		check(u, 50)
		check(node(impl.OpCut, 1, 0, u), 50)
	}
	for _, s := range []string{"a:2", "2:1", "16:0", "(not a:2)", "(join a:1 b:1)", "(mul a:12 b:12)", "(add a:16 16:1)", "(grow 2 (eq a:2 b:2))"} {
		check(read(t, s), 50)
	}
	for _, limit := range badLimits {
		for _, s := range []string{"1:1", "1:0", "a:1", "(eq a:3 a:3)", "(eq 12:5 (mul a:12 b:12))", "(eq 16:5 16:5)", "a:2"} {
			check(read(t, s), limit)
		}
	}
}

// conditions are valid terms of width 1, with all values of their variables.
func conditions(n int) []impl.Term {
	m := maker{state: 109}
	var l []impl.Term
	for len(l) < n {
		w := 1 + m.below(3)
		a, b := m.term(w, 2+m.below(3)), m.term(w, 1+m.below(3))
		if m.below(3) == 0 {
			b = constant(w, m.below(power(w)))
		}
		u := node(impl.OpEq+m.below(3), 1, 0, a, b)
		if m.below(3) == 0 {
			u = node(impl.OpAnd, 1, 0, u, node(impl.OpBelow, 1, 0, b, m.term(w, 1)))
		}
		if bits := bitsOf(u); bits > 0 && bits <= 9 && countNodes(u) <= 60 {
			l = append(l, u)
		}
	}
	return l
}

func TestP6SolveTermOfAny(t *testing.T) {
	found := map[int]int{}
	for _, u := range conditions(700) {
		code, l := impl.SolveTerm(u, 3000)
		if _, _, ok := slowCircuitOf(u); !ok {
			if code != impl.SatOpen || len(l) != 0 {
				t.Errorf("SolveTerm(%s) = %d, %s without a circuit", textOf(u), code, textOfValues(l))
			}
			continue
		}
		found[code]++
		want, fine := firstValues(u)
		if fine != (code == impl.SatYes) || !fine && code != impl.SatNo || !slices.Equal(l, want) {
			t.Errorf("SolveTerm(%s) = %d, %s, want %s", textOf(u), code, textOfValues(l), textOfValues(want))
		}
		_, _, splits := slowSolve(u, 3000)
		for _, limit := range []int{0, splits - 1, splits, splits + 1} {
			slow, first, _ := slowSolve(u, limit)
			if limit < 0 {
				slow, first = 0, nil
			}
			if code, l := impl.SolveTerm(u, limit); code != slow || !slices.Equal(l, first) {
				t.Errorf("SolveTerm(%s, %d) = %d, %s, want %d, %s", textOf(u), limit, code, textOfValues(l), slow, textOfValues(first))
			}
		}
	}
	if found[impl.SatYes] < 200 || found[impl.SatNo] < 100 {
		t.Errorf("the answers are %v", found)
	}
}

func TestP6HoldsTerm(t *testing.T) {
	for _, c := range []struct {
		term  string
		limit int
		code  int
		want  string
	}{
		{"1:1", 0, impl.SatYes, ""}, {"1:0", 0, impl.SatNo, ""}, {"(eq a:3 a:3)", 0, impl.SatYes, ""}, {"a:1", 0, impl.SatNo, "a:1=0"}, {"(not a:1)", 0, impl.SatNo, "a:1=1"}, {"(or a:1 (not a:1))", 50, impl.SatYes, ""}, {"(and a:1 (not a:1))", 50, impl.SatNo, "a:1=0"}, {"(and a:1 (not a:1))", 0, impl.SatOpen, ""},
		{"(less a:2 b:2)", 50, impl.SatNo, "a:2=0 b:2=0"}, {"(less a:3 3:7)", 50, impl.SatNo, "a:3=7"}, {"(not (less 3:7 a:3))", 50, impl.SatYes, ""}, {"(or (less a:2 b:2) (not (less a:2 b:2)))", 50, impl.SatYes, ""}, {"(eq (sub a:3 b:3) (add a:3 (neg b:3)))", 300, impl.SatYes, ""}, {"(eq (sub a:3 b:3) (sub b:3 a:3))", 300, impl.SatNo, "a:3=0 b:3=1"},
		{"(eq (sub a:3 b:3) (add a:3 (neg b:3)))", 0, impl.SatOpen, ""}, {"(less (rem a:3 b:3) b:3)", 300, impl.SatNo, "a:3=0 b:3=0"}, {"(or (eq 3:0 b:3) (less (rem a:3 b:3) b:3))", 300, impl.SatYes, ""}, {"(eq a:15 b:15)", 50, impl.SatNo, "a:15=0 b:15=1"}, {"(eq a:15 b:15)", 28, impl.SatOpen, ""},
		// The kid stays as it is, though a simpler form of it would have a circuit.
		{"(eq (sub a:16 a:16) 16:0)", 3000, impl.SatOpen, ""}, {"(eq a:16 a:16)", 3000, impl.SatOpen, ""}, {"(or 1:1 (eq 12:5 (mul a:12 b:12)))", 3000, impl.SatOpen, ""}, {"(not (not (eq a:16 a:16)))", 3000, impl.SatOpen, ""},
	} {
		code, l := impl.HoldsTerm(read(t, c.term), c.limit)
		if code != c.code || textOfValues(l) != c.want {
			t.Errorf("HoldsTerm(%s, %d) = %d, %s, want %d, %s", c.term, c.limit, code, textOfValues(l), c.code, c.want)
		}
	}
	a := variable(1, "a")
	if code, l := impl.HoldsTerm(nots(238, a), 50); code != impl.SatNo || textOfValues(l) != "a:1=0" {
		t.Errorf("HoldsTerm of 239 nodes = %d, %s", code, textOfValues(l))
	}
	if code, l := impl.SolveTerm(nots(239, a), 50); code != impl.SatYes || textOfValues(l) != "a:1=0" {
		t.Errorf("SolveTerm of 240 nodes = %d, %s", code, textOfValues(l))
	}
	for _, u := range []impl.Term{nots(239, a), nots(239, constant(1, 0)), nots(240, a), sized(1, 240), sized(1, 241)} {
		if code, l := impl.HoldsTerm(u, 50); code != 0 || len(l) != 0 {
			t.Errorf("HoldsTerm of %d nodes = %d, %s", countNodes(u), code, textOfValues(l))
		}
	}
}

func TestP6HoldsTermOfAny(t *testing.T) {
	found := map[int]int{}
	for _, u := range conditions(500) {
		opposite := node(impl.OpNot, 1, 0, u)
		_, _, splits := slowSolve(opposite, 3000)
		for _, limit := range []int{0, max(splits-1, 0), splits, 3000} {
			want, values, _ := slowSolve(opposite, limit)
			if want != impl.SatOpen {
				want = impl.SatYes + impl.SatNo - want
			}
			code, l := impl.HoldsTerm(u, limit)
			if code != want || !slices.Equal(l, values) {
				t.Errorf("HoldsTerm(%s, %d) = %d, %s, want %d, %s", textOf(u), limit, code, textOfValues(l), want, textOfValues(values))
			}
			found[code]++
			if code == impl.SatOpen {
				continue
			}
			first, some := firstValues(opposite)
			if some != (code == impl.SatNo) || !slices.Equal(l, first) {
				t.Errorf("HoldsTerm(%s, %d) = %d, %s, but it is 0 first for %s", textOf(u), limit, code, textOfValues(l), textOfValues(first))
			}
		}
	}
	if found[impl.SatYes] < 100 || found[impl.SatNo] < 100 || found[impl.SatOpen] < 100 {
		t.Errorf("the answers are %v", found)
	}
}

// A slowLeast is LeastOf for valid arguments, word for word; it keeps the splits of each search.
type slowLeast struct {
	f      impl.Formula
	splits []int
}

func (s *slowLeast) search(lits []int) int {
	search := slowSearch{f: s.f, limit: 3000}
	code, _, _ := search.with(lits)
	s.splits = append(s.splits, search.splits)
	return code
}

func (s *slowLeast) word(number []int, cond int, first int) int {
	n := 0
	lits := []int{cond}
	for k := len(number) - 1; k >= 0; k-- {
		lit := number[k] * first
		if s.search(append(slices.Clone(lits), lit)) != impl.SatYes {
			lit = -lit
		}
		lits = append(lits, lit)
		if lit == number[k] {
			n += power(k)
		}
	}
	return n
}

func TestP6LeastOf(t *testing.T) {
	for _, c := range []struct {
		cond, term      string
		limit           int
		least, greatest int
	}{
		{"1:1", "5:19", 0, 19, 19}, {"1:1", "a:2", 2, 0, 3}, {"(less a:2 2:3)", "a:2", 50, 0, 2}, {"(less 3:2 a:3)", "a:3", 50, 3, 7}, {"(less a:3 b:3)", "a:3", 50, 0, 6}, {"(less a:3 b:3)", "b:3", 50, 1, 7}, {"(below a:3 b:3)", "b:3", 50, 0, 7}, {"(below 3:1 b:3)", "b:3", 50, 2, 3}, {"(below b:3 3:0)", "b:3", 50, 4, 7},
		{"a:1", "a:1", 0, 1, 1}, {"(not a:1)", "a:1", 0, 0, 0}, {"b:1", "a:1", 1, 0, 1}, {"1:1", "a:1", 1, 0, 1}, {"a:1", "4:9", 0, 9, 9}, {"a:1", "(not (grow 3 a:1))", 0, 6, 6}, {"1:1", "(grow 3 a:1)", 1, 0, 1}, {"1:1", "(stretch 3 a:1)", 1, 0, 7}, {"1:1", "(sub a:4 a:4)", 4, 0, 0},
		// One word is left.
		{"(eq a:2 2:2)", "a:2", 0, 2, 2}, {"(eq a:4 4:11)", "(add a:4 4:7)", 0, 2, 2}, {"(eq 4:0 (add a:4 b:4))", "(add a:4 b:4)", 50, 0, 0}, {"(and (less 3:4 a:3) (less a:3 3:6))", "a:3", 50, 5, 5}, {"(eq a:3 b:3)", "(xor a:3 b:3)", 50, 0, 0},
		{"(and (less 3:1 a:3) (not (cut 0 1 a:3)))", "a:3", 50, 2, 6}, {"(eq 4:1 (rem a:4 4:5))", "a:4", 300, 1, 11}, {"1:1", "(mul a:2 (not a:2))", 50, 0, 2}, {"(eq 4:4 (mul a:4 a:4))", "a:4", 300, 2, 14}, {"1:1", "(rem a:4 4:5)", 300, 0, 4}, {"1:1", "(div 3:5 a:3)", 300, 0, 7}, {"1:1", "(shr a:3 3:1)", 50, 0, 3}, {"1:1", "a:15", 15, 0, 32767}, {"(cut 0 1 a:16)", "(cut 0 15 a:16)", 50, 1, 32767}, {"(cut 0 1 b:15)", "a:15", 50, 0, 32767},
		// The search for the last bit is the longest one.
		{"(less 2:0 a:2)", "(mul b:3 b:3)", 11, 0, 4},
	} {
		least, greatest, ok := impl.LeastOf(read(t, c.cond), read(t, c.term), c.limit)
		if !ok || least != c.least || greatest != c.greatest {
			t.Errorf("LeastOf(%s, %s, %d) = %d, %d, %v, want %d, %d", c.cond, c.term, c.limit, least, greatest, ok, c.least, c.greatest)
		}
	}
}

func mustHaveNoLeast(t *testing.T, cond, u impl.Term, limit int) {
	t.Helper()
	if least, greatest, ok := impl.LeastOf(cond, u, limit); ok || least != 0 || greatest != 0 {
		t.Errorf("LeastOf(%.200s, %.200s, %d) = %d, %d, %v", dump(cond), dump(u), limit, least, greatest, ok)
	}
}

func TestP6LeastOfFails(t *testing.T) {
	for _, c := range []struct {
		cond, term string
		limit      int
	}{
		// There is no word.
		{"1:0", "a:2", 50}, {"(less a:2 2:0)", "a:2", 50}, {"(and a:1 (not a:1))", "3:5", 50}, {"(less a:3 a:3)", "b:2", 3000},
		// The search for any word is too long, or the one for a bit.
		{"1:1", "a:2", 1}, {"1:1", "a:1", 0}, {"b:1", "a:1", 0}, {"1:1", "a:15", 14}, {"a:1", "(and a:1 b:1)", 0}, {"(less a:2 b:2)", "4:3", 0}, {"(less 2:0 a:2)", "(mul b:3 b:3)", 10},
		// Other widths, and no circuit.
		{"a:2", "b:2", 50}, {"2:1", "2:1", 50}, {"16:1", "a:1", 50}, {"1:1", "a:16", 50}, {"1:1", "16:5", 50}, {"a:1", "a:2", 50}, {"(eq a:3 3:1)", "a:2", 50}, {"(eq a:16 16:1)", "b:1", 50}, {"1:1", "(mul a:12 b:12)", 3000}, {"(eq 12:5 (mul a:12 b:12))", "c:1", 3000}, {"(cut 0 1 a:15)", "(if c:1 b:15 15:0)", 3000}, {"(cut 0 1 a:16)", "b:15", 3000}, {"1:1", "(cut 0 1 (neg a:16))", 3000},
	} {
		mustHaveNoLeast(t, read(t, c.cond), read(t, c.term), c.limit)
	}
	for _, limit := range badLimits {
		mustHaveNoLeast(t, constant(1, 1), constant(3, 5), limit)
		mustHaveNoLeast(t, variable(1, "a"), variable(2, "b"), limit)
	}
	for _, u := range badTerms() {
		mustHaveNoLeast(t, u, constant(3, 5), 50)
		mustHaveNoLeast(t, constant(1, 1), u, 50)
		mustHaveNoLeast(t, node(impl.OpEq, 1, 0, u, u), constant(3, 5), 50)
		mustHaveNoLeast(t, u, u, 50)
	}
	for _, w := range oddInts {
		u := constant(3, 5)
		u.W = w
		if w < 3 || w > 15 {
			mustHaveNoLeast(t, constant(1, 1), u, 50)
		}
	}
	// OpJoin of both may have 240 nodes.
	for _, sizes := range [][2]int{{1, 238}, {238, 1}, {120, 119}} {
		cond, u := nots(sizes[0]-1, constant(1, sizes[0]%2)), nots(sizes[1]-1, constant(4, 9))
		if least, greatest, ok := impl.LeastOf(cond, u, 0); !ok || least != greatest || least != []int{6, 9}[sizes[1]%2] {
			t.Errorf("LeastOf of %v nodes = %d, %d, %v", sizes, least, greatest, ok)
		}
		mustHaveNoLeast(t, nots(2, cond), u, 0)
		mustHaveNoLeast(t, cond, nots(1, u), 0)
	}
}

// TestP6LeastOfAny compares with the words of all values, and with a limit by which just one search is too long.
func TestP6LeastOfAny(t *testing.T) {
	m := maker{state: 113}
	found, late := map[bool]int{}, 0
	for _, cond := range conditions(500) {
		u := m.term(1+m.below(4), 1+m.below(3))
		switch m.below(4) {
		case 0, 1:
			u = cond.Kids[0]
		case 2:
			u = node(impl.OpMul, 3, 0, variable(3, "b3"), m.term(3, 1))
		}
		both := node(impl.OpJoin, u.W+1, 0, cond, u)
		if bitsOf(both) > 10 || countNodes(both) > 70 {
			continue
		}
		c, number, ok := slowCircuitOf(both)
		if !ok {
			mustHaveNoLeast(t, cond, u, 3000)
			continue
		}
		least, greatest, some := 1000, -1, false
		for _, l := range allValues(both) {
			if wordOf(cond, wordsOf(l)) == 1 {
				n := wordOf(u, wordsOf(l))
				least, greatest, some = min(least, n), max(greatest, n), true
			}
		}
		found[some]++
		slow := slowLeast{f: slowFormula(c, 1)}
		lit, word := number[u.W], number[:u.W]
		if slow.search([]int{lit}) != impl.SatYes {
			if some {
				t.Fatalf("the condition %s has values", textOf(cond))
			}
			mustHaveNoLeast(t, cond, u, 3000)
			continue
		}
		if a, b := slow.word(word, lit, -1), slow.word(word, lit, 1); a != least || b != greatest {
			t.Fatalf("the searches for %s, %s give %d and %d, want %d and %d", textOf(cond), textOf(u), a, b, least, greatest)
		}
		for _, limit := range []int{slices.Max(slow.splits), 3000} {
			a, b, ok := impl.LeastOf(cond, u, limit)
			if !ok || a != least || b != greatest {
				t.Errorf("LeastOf(%s, %s, %d) = %d, %d, %v, want %d, %d", textOf(cond), textOf(u), limit, a, b, ok, least, greatest)
			}
		}
		if most := slices.Max(slow.splits); most > 0 {
			mustHaveNoLeast(t, cond, u, most-1)
			// A search for one of the last bits is the only one that is too long.
			late += truth(slices.Index(slow.splits, most) > u.W)
		}
	}
	if found[true] < 100 || found[false] < 30 || late < 10 {
		t.Errorf("there are words in %v, and %d searches are long at last", found, late)
	}
}
