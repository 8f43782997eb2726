package tests

import (
	"math"
	"slices"
	"strconv"
	"strings"
	"testing"

	"loop.example/g03219/impl"
)

// readFormula returns the formula of a text that must be one.
func readFormula(t *testing.T, s string) impl.Formula {
	t.Helper()
	f, ok := impl.ParseFormula(s)
	if !ok {
		t.Fatalf("ParseFormula(%q) fails", s)
	}
	return f
}

// textOfFormula writes a formula without the program's help, also one that is not valid.
func textOfFormula(f impl.Formula) string {
	s := strconv.Itoa(f.Vars)
	for _, clause := range f.Clauses {
		s += "|" + textOfInts(clause)
	}
	return s
}

func textOfInts(l []int) string {
	var words []string
	for _, n := range l {
		words = append(words, strconv.Itoa(n))
	}
	return strings.Join(words, " ")
}

func textOfModel(m []bool) string {
	s := ""
	for _, b := range m {
		s += strconv.Itoa(map[bool]int{true: 1}[b])
	}
	return s
}

// textOfProof writes a leaf as a dot, and a split as its variable and its kids in brackets.
func textOfProof(p impl.Proof) string {
	if p.Var == 0 && len(p.Kids) == 0 {
		return "."
	}
	s := strconv.Itoa(p.Var) + "["
	for _, kid := range p.Kids {
		s += textOfProof(kid)
	}
	return s + "]"
}

func split(v int, kids ...impl.Proof) impl.Proof {
	return impl.Proof{Var: v, Kids: kids}
}

func alikeFormulas(a, b impl.Formula) bool {
	return a.Vars == b.Vars && slices.EqualFunc(a.Clauses, b.Clauses, slices.Equal[[]int])
}

func alikeProofs(a, b impl.Proof) bool {
	return a.Var == b.Var && slices.EqualFunc(a.Kids, b.Kids, alikeProofs)
}

func isTrue(lit int, m []bool) bool {
	if lit < 0 {
		return !m[-lit-1]
	}
	return m[lit-1]
}

func someTrue(clause []int, m []bool) bool {
	return slices.ContainsFunc(clause, func(lit int) bool { return isTrue(lit, m) })
}

func allTrue(lits []int, m []bool) bool {
	return !slices.ContainsFunc(lits, func(lit int) bool { return !isTrue(lit, m) })
}

// assignments returns all lists of n truth values in lexicographic order.
func assignments(n int) [][]bool {
	if n == 0 {
		return [][]bool{{}}
	}
	var l [][]bool
	for _, first := range []bool{false, true} {
		for _, rest := range assignments(n - 1) {
			l = append(l, append([]bool{first}, rest...))
		}
	}
	return l
}

// modelsWith returns the models of a formula in which some literals are true, in lexicographic order.
func modelsWith(f impl.Formula, lits []int) [][]bool {
	var l [][]bool
	for _, m := range assignments(f.Vars) {
		if allTrue(lits, m) && !slices.ContainsFunc(f.Clauses, func(clause []int) bool { return !someTrue(clause, m) }) {
			l = append(l, m)
		}
	}
	return l
}

func without(f impl.Formula, i int) impl.Formula {
	return impl.Formula{Vars: f.Vars, Clauses: slices.Delete(slices.Clone(f.Clauses), i, i+1)}
}

// slowPropagate is Propagate for valid arguments, word for word.
func slowPropagate(f impl.Formula, lits []int) ([]int, bool) {
	set := map[int]bool{}
	for _, lit := range lits {
		set[lit] = true
	}
	for size := -1; size != len(set); {
		size = len(set)
		for _, clause := range f.Clauses {
			var left []int
			for _, lit := range clause {
				if !set[-lit] {
					left = append(left, lit)
				}
			}
			if len(left) == 0 {
				return nil, false
			}
			if len(left) == 1 {
				set[left[0]] = true
			}
		}
	}
	var l []int
	for v := 1; v <= f.Vars; v++ {
		switch {
		case set[v] && set[-v]:
			return nil, false
		case set[v]:
			l = append(l, v)
		case set[-v]:
			l = append(l, -v)
		}
	}
	return l, true
}

// A slowSearch is a Search for valid arguments, word for word.
type slowSearch struct {
	f      impl.Formula
	limit  int
	splits int
}

func (s *slowSearch) with(lits []int) (int, []bool, impl.Proof) {
	set, ok := slowPropagate(s.f, lits)
	if !ok {
		return impl.SatNo, nil, impl.Proof{}
	}
	v := 1
	for slices.Contains(set, v) || slices.Contains(set, -v) {
		v++
	}
	if v > s.f.Vars {
		var m []bool
		for _, lit := range set {
			m = append(m, lit > 0)
		}
		return impl.SatYes, m, impl.Proof{}
	}
	if s.splits == s.limit {
		return impl.SatOpen, nil, impl.Proof{}
	}
	s.splits++
	p := split(v)
	for _, lit := range []int{-v, v} {
		code, m, kid := s.with(append(slices.Clone(set), lit))
		if code != impl.SatNo {
			return code, m, impl.Proof{}
		}
		p.Kids = append(p.Kids, kid)
	}
	return impl.SatNo, nil, p
}

// slowCheck is CheckProof for a valid formula and its literals, word for word.
func slowCheck(f impl.Formula, lits []int, p impl.Proof) bool {
	if p.Var == 0 {
		_, ok := slowPropagate(f, lits)
		return len(p.Kids) == 0 && !ok
	}
	return p.Var > 0 && p.Var <= f.Vars && len(p.Kids) == 2 &&
		slowCheck(f, append(slices.Clone(lits), -p.Var), p.Kids[0]) && slowCheck(f, append(slices.Clone(lits), p.Var), p.Kids[1])
}

// slowTrim trims a proof that refutes the formula with some literals, word for word.
func slowTrim(f impl.Formula, lits []int, p impl.Proof) impl.Proof {
	if _, ok := slowPropagate(f, lits); !ok {
		return impl.Proof{}
	}
	q := split(p.Var)
	for i, lit := range []int{-p.Var, p.Var} {
		q.Kids = append(q.Kids, slowTrim(f, append(slices.Clone(lits), lit), p.Kids[i]))
	}
	for _, kid := range q.Kids {
		if slowCheck(f, lits, kid) {
			return kid
		}
	}
	return q
}

func slowSize(p impl.Proof) int {
	n := 1
	for _, kid := range p.Kids {
		n += slowSize(kid)
	}
	return n
}

// slowCore is CoreOf for valid arguments, word for word.
func slowCore(f impl.Formula, limit int) ([]int, bool) {
	if code, _, _ := (&slowSearch{f: f, limit: limit}).with(nil); code != impl.SatNo {
		return nil, false
	}
	out := map[int]bool{}
	var core []int
	for i := range f.Clauses {
		rest := impl.Formula{Vars: f.Vars}
		for j, clause := range f.Clauses {
			if j != i && !out[j] {
				rest.Clauses = append(rest.Clauses, clause)
			}
		}
		code, _, _ := (&slowSearch{f: rest, limit: limit}).with(nil)
		switch code {
		case impl.SatOpen:
			return nil, false
		case impl.SatNo:
			out[i] = true
		default:
			core = append(core, i)
		}
	}
	return core, true
}

func (m *maker) literal(vars int) int {
	return (1 + m.below(vars)) * (1 - 2*m.below(2))
}

// clause makes a clause that has each variable with a chance of one in rare.
func (m *maker) clause(vars, rare int) []int {
	var l []int
	for v := 1; v <= vars; v++ {
		if m.below(rare) == 0 {
			l = append(l, v*(1-2*m.below(2)))
		}
	}
	return l
}

// formula makes a valid formula; it seldom has the empty clause.
func (m *maker) formula(vars, clauses, rare int) impl.Formula {
	f := impl.Formula{Vars: vars}
	for range clauses {
		clause := m.clause(vars, rare)
		if len(clause) > 0 || m.below(100) == 0 {
			f.Clauses = append(f.Clauses, clause)
		}
	}
	return f
}

// literals makes a list of some literals, with repeated and opposite ones at times.
func (m *maker) literals(vars int) []int {
	var l []int
	if vars > 0 {
		for range m.below(4) {
			l = append(l, m.literal(vars))
		}
	}
	return l
}

// proof makes a proof that refutes a formula without models, with splits that are not needed.
func (m *maker) proof(f impl.Formula, lits []int, depth int) impl.Proof {
	set, ok := slowPropagate(f, lits)
	if !ok && (depth <= 0 || m.below(5) > 0) {
		return impl.Proof{}
	}
	v := 1 + m.below(f.Vars)
	if depth <= 0 {
		for v = 1; slices.Contains(set, v) || slices.Contains(set, -v); {
			v++
		}
	}
	with := func(lit int) []int { return append(slices.Clone(lits), lit) }
	return split(v, m.proof(f, with(-v), depth-1), m.proof(f, with(v), depth-1))
}

// someFormulas are valid formulas of at most 7 variables, about half of which have models.
func someFormulas(n int) []impl.Formula {
	m := maker{state: 11}
	l := []impl.Formula{{}, {Clauses: [][]int{{}}}, {Clauses: [][]int{{}, {}}}, {Vars: 3}, {Vars: 3, Clauses: [][]int{{}}}, {Vars: 2, Clauses: [][]int{{1, 2}, {}, {-1}}}}
	for len(l) < n {
		vars := 1 + m.below(7)
		l = append(l, m.formula(vars, m.below(2+5*vars), 1+m.below(vars)))
	}
	return l
}

// short makes a clause of two or three variables.
func (m *maker) short(vars int) []int {
	var l []int
	for size := 2 + m.below(2); len(l) < size; {
		lit := m.literal(vars)
		if !slices.Contains(l, lit) && !slices.Contains(l, -lit) {
			l = append(l, lit)
		}
	}
	slices.SortFunc(l, func(a, b int) int { return max(a, -a) - max(b, -b) })
	return l
}

// modelless are formulas without models; all but the first two ones need splits.
func modelless(n int) []impl.Formula {
	m := maker{state: 23}
	l := []impl.Formula{{Clauses: [][]int{{}}}, {Vars: 1, Clauses: [][]int{{1}, {-1}}}, square(0, 2), cube()}
	for len(l) < n {
		f := impl.Formula{Vars: 3 + m.below(4)}
		for range 5 * f.Vars {
			f.Clauses = append(f.Clauses, m.short(f.Vars))
		}
		if _, ok := slowPropagate(f, nil); ok && len(modelsWith(f, nil)) == 0 {
			l = append(l, f)
		}
	}
	return l
}

// square has the four clauses of the two variables behind v, which have no model; it needs one split.
func square(v, vars int) impl.Formula {
	a, b := v+1, v+2
	return impl.Formula{Vars: vars, Clauses: [][]int{{a, b}, {-a, b}, {a, -b}, {-a, -b}}}
}

// cube has the eight clauses of three of four variables, which have no model; it needs three splits.
func cube() impl.Formula {
	f := impl.Formula{Vars: 4}
	for _, a := range []int{1, -1} {
		for _, b := range []int{2, -2} {
			f.Clauses = append(f.Clauses, []int{a, b, 3}, []int{a, b, -3})
		}
	}
	return f
}

// pigeons says that some pigeons sit in holes, one less, each alone; it has no model.
func pigeons(holes int) impl.Formula {
	f := impl.Formula{Vars: holes * (holes + 1)}
	for i := range holes + 1 {
		var clause []int
		for j := range holes {
			clause = append(clause, i*holes+j+1)
			for k := range i {
				f.Clauses = append(f.Clauses, []int{-(k*holes + j + 1), -(i*holes + j + 1)})
			}
		}
		f.Clauses = append(f.Clauses, clause)
	}
	return f
}

// badClauses are no clauses of vars variables, each for one reason only.
func badClauses(vars int) [][]int {
	return [][]int{
		{0}, {1, 0}, {0, 1}, {vars + 1}, {-vars - 1}, {1, vars + 1}, {-1, -vars - 1}, {math.MinInt}, {math.MinInt + 1}, {math.MaxInt}, {1, math.MinInt}, {math.MinInt, 1},
		{2, 1}, {-2, 1}, {2, -1}, {-2, -1}, {1, 1}, {-1, -1}, {1, -1}, {-1, 1}, {1, 2, 2}, {1, 2, -2}, {1, 2, 1},
	}
}

// badFormulas are not valid, each for one reason only.
func badFormulas() []impl.Formula {
	l := []impl.Formula{
		{Vars: -1}, {Vars: math.MinInt}, {Vars: math.MinInt, Clauses: [][]int{{math.MinInt}}}, {Vars: -1, Clauses: [][]int{{1}}}, {Vars: -2, Clauses: [][]int{{-1}}},
		{Vars: 401}, {Vars: math.MaxInt}, {Vars: math.MaxInt, Clauses: [][]int{{math.MaxInt}}}, {Vars: 401, Clauses: [][]int{{401}}},
		{Vars: 2, Clauses: make([][]int, 1601)}, {Vars: 0, Clauses: [][]int{{1}}}, {Vars: 400, Clauses: [][]int{{1, 400, 401}}},
	}
	for _, clause := range badClauses(3) {
		l = append(l, impl.Formula{Vars: 3, Clauses: [][]int{clause}}, impl.Formula{Vars: 3, Clauses: [][]int{{1, 2}, {-1}, clause, {}, {-2, 3}}})
	}
	return l
}

// badLiterals are lists with a number that is no literal of vars variables.
func badLiterals(vars int) [][]int {
	l := [][]int{{0}, {vars + 1}, {-vars - 1}, {math.MinInt}, {math.MinInt + 1}, {math.MaxInt}}
	if vars > 0 {
		for _, bad := range slices.Clone(l) {
			l = append(l, append([]int{1, -1}, bad...), append(bad, 1))
		}
	}
	return l
}

var badLimits = []int{-1, math.MinInt, 3001, math.MaxInt}

// badProofs refute no formula of vars variables, whatever its clauses are.
func badProofs(vars int) []impl.Proof {
	dot := impl.Proof{}
	l := []impl.Proof{split(0, dot), split(0, dot, dot), split(0, split(1, dot, dot)), split(0, dot, dot, dot)}
	for _, v := range []int{-1, vars + 1, 401, math.MinInt, math.MaxInt} {
		l = append(l, split(v), split(v, dot, dot))
	}
	if vars > 0 {
		l = append(l, split(1), split(1, dot), split(1, dot, dot, dot), split(-1, dot, dot), split(vars, dot, split(vars)), split(vars, split(0, dot, dot), dot), split(1, split(1, dot, dot), split(vars+1, dot, dot)), split(1, split(1, dot), dot))
	}
	return l
}

// deepProof puts splits around a proof, which is always the kid with this index.
func deepProof(depth, v, kid int, p impl.Proof) impl.Proof {
	for range depth {
		kids := make([]impl.Proof, 2)
		kids[kid] = p
		p = split(v, kids...)
	}
	return p
}
