package tests

import (
	"math"
	"slices"
	"strconv"
	"strings"
	"testing"

	"loop.example/g03219/impl"
)

func gate(a, b int) impl.Gate {
	return impl.Gate{A: a, B: b}
}

func circuit(inputs int, gates ...impl.Gate) impl.Circuit {
	return impl.Circuit{Inputs: inputs, Gates: gates}
}

// textOfCircuit writes the number of inputs and, each behind a bar, the two literals of each gate.
func textOfCircuit(c impl.Circuit) string {
	s := strconv.Itoa(c.Inputs)
	for _, g := range c.Gates {
		s += "|" + textOfInts([]int{g.A, g.B})
	}
	return s
}

// readCircuit returns the circuit of a text that textOfCircuit writes.
func readCircuit(t *testing.T, s string) impl.Circuit {
	t.Helper()
	var c impl.Circuit
	for i, part := range strings.Split(s, "|") {
		l, ok := impl.ParseInts(part)
		switch {
		case ok && i == 0 && len(l) == 1:
			c.Inputs = l[0]
		case ok && i > 0 && len(l) == 2:
			c.Gates = append(c.Gates, gate(l[0], l[1]))
		default:
			t.Fatalf("%q is no circuit", s)
		}
	}
	return c
}

func alikeCircuits(a, b impl.Circuit) bool {
	return a.Inputs == b.Inputs && slices.Equal(a.Gates, b.Gates)
}

func noCircuit(c impl.Circuit) bool {
	return c.Inputs == 0 && len(c.Gates) == 0
}

func lastLine(c impl.Circuit) int {
	return 1 + c.Inputs + len(c.Gates)
}

// linesOf returns whether the lines of a valid circuit are true.
func linesOf(c impl.Circuit, in []bool) []bool {
	l := append([]bool{true}, in...)
	for _, g := range c.Gates {
		l = append(l, isTrue(g.A, l) && isTrue(g.B, l))
	}
	return l
}

// wordIn returns the word of a number for some lines.
func wordIn(number []int, lines []bool) int {
	n := 0
	for k, lit := range number {
		n += power(k) * truth(isTrue(lit, lines))
	}
	return n
}

// inputLines returns the lines of the inputs from one of them on.
func inputLines(from, n int) []int {
	var l []int
	for i := range n {
		l = append(l, from+i+2)
	}
	return l
}

func repeated(n, times int) []int {
	return slices.Repeat([]int{n}, times)
}

// numberFor returns the number of a word.
func numberFor(w, a int) []int {
	var l []int
	for k := range w {
		l = append(l, 2*(a/power(k)%2)-1)
	}
	return l
}

// A slowCircuit makes what the document says, word for word, with as many gates as this needs.
type slowCircuit struct{ impl.Circuit }

func slowOn(c impl.Circuit) *slowCircuit {
	return &slowCircuit{circuit(c.Inputs, slices.Clone(c.Gates)...)}
}

func (s *slowCircuit) and(a, b int) int {
	if a == -1 || b == -1 || a == -b {
		return -1
	}
	if a == 1 {
		return b
	}
	if b == 1 || a == b {
		return a
	}
	g := gate(a, b)
	if max(a, -a) > max(b, -b) {
		g = gate(b, a)
	}
	i := slices.Index(s.Gates, g)
	if i < 0 {
		i = len(s.Gates)
		s.Gates = append(s.Gates, g)
	}
	return s.Inputs + 2 + i
}

func (s *slowCircuit) or(a, b int) int {
	return -s.and(-a, -b)
}

func (s *slowCircuit) xor(a, b int) int {
	first := s.and(a, -b)
	second := s.and(-a, b)
	return s.or(first, second)
}

func (s *slowCircuit) choose(c, a, b int) int {
	first := s.and(c, a)
	second := s.and(-c, b)
	return s.or(first, second)
}

func (s *slowCircuit) add(a, b []int, carry int) ([]int, int) {
	var sum []int
	for i := range a {
		x := s.xor(a[i], b[i])
		sum = append(sum, s.xor(x, carry))
		first := s.and(a[i], b[i])
		second := s.and(x, carry)
		carry = s.or(first, second)
	}
	return sum, carry
}

func (s *slowCircuit) multiply(a, b []int) []int {
	w := len(a)
	l := repeated(-1, w)
	for k := range w {
		var bits []int
		for j := 0; j <= w-1-k; j++ {
			bits = append(bits, s.and(b[k], a[j]))
		}
		sum, _ := s.add(l[k:], bits, -1)
		l = slices.Concat(l[:k], sum)
	}
	return l
}

func (s *slowCircuit) divide(op int, a, b []int) []int {
	w := len(a)
	quotient, rest := repeated(0, w), repeated(-1, w)
	for k := w - 1; k >= 0; k-- {
		t := slices.Concat([]int{a[k]}, rest)
		difference, carry := s.add(t, slices.Concat(opposite(b), []int{1}), 1)
		quotient[k] = carry
		for j := range w {
			rest[j] = s.choose(carry, difference[j], t[j])
		}
	}
	if op == impl.OpDiv {
		return quotient
	}
	return rest
}

func (s *slowCircuit) shift(op int, a, b []int) []int {
	w, f, k := len(a), -1, 0
	if op == impl.OpSar {
		f = a[w-1]
	}
	l := slices.Clone(a)
	for ; power(k) < w; k++ {
		before := slices.Clone(l)
		for j := range w {
			from, bit := j+power(k), f
			if op == impl.OpShl {
				from = j - power(k)
			}
			if from >= 0 && from < w {
				bit = before[from]
			}
			l[j] = s.choose(b[k], bit, before[j])
		}
	}
	if k < w {
		g := -1
		for ; k < w; k++ {
			g = s.or(g, b[k])
		}
		for j := range w {
			l[j] = s.choose(g, f, l[j])
		}
	}
	return l
}

func (s *slowCircuit) compare(op int, a, b []int) int {
	if op == impl.OpEq {
		all := 1
		for i := range a {
			x := s.xor(a[i], b[i])
			all = s.and(all, -x)
		}
		return all
	}
	a, b = slices.Clone(a), slices.Clone(b)
	if op == impl.OpBelow {
		a[len(a)-1] *= -1
		b[len(b)-1] *= -1
	}
	_, carry := s.add(a, opposite(b), 1)
	return -carry
}

func (s *slowCircuit) operate(op int, a, b []int) []int {
	var l []int
	switch op {
	case impl.OpAdd:
		l, _ = s.add(a, b, -1)
	case impl.OpSub:
		l, _ = s.add(a, opposite(b), 1)
	case impl.OpMul:
		l = s.multiply(a, b)
	case impl.OpDiv, impl.OpRem:
		l = s.divide(op, a, b)
	case impl.OpShl, impl.OpShr, impl.OpSar:
		l = s.shift(op, a, b)
	case impl.OpEq, impl.OpLess, impl.OpBelow:
		l = []int{s.compare(op, a, b)}
	}
	for i := range a {
		switch op {
		case impl.OpAnd:
			l = append(l, s.and(a[i], b[i]))
		case impl.OpOr:
			l = append(l, s.or(a[i], b[i]))
		case impl.OpXor:
			l = append(l, s.xor(a[i], b[i]))
		}
	}
	return l
}

// number returns the number of a valid term, whose variables have some numbers.
func (s *slowCircuit) number(u impl.Term, vars map[string][]int) []int {
	var k [][]int
	for _, kid := range u.Kids {
		k = append(k, s.number(kid, vars))
	}
	switch u.Op {
	case impl.OpConst:
		return numberFor(u.W, u.N)
	case impl.OpVar:
		return vars[u.Name]
	case impl.OpNot:
		return opposite(k[0])
	case impl.OpNeg:
		return s.operate(impl.OpSub, numberFor(u.W, 0), k[0])
	case impl.OpIf:
		var l []int
		for j := range u.W {
			l = append(l, s.choose(k[0][0], k[1][j], k[2][j]))
		}
		return l
	case impl.OpJoin:
		return slices.Concat(k[1], k[0])
	case impl.OpCut:
		return k[0][u.N:][:u.W]
	case impl.OpGrow:
		return slices.Concat(k[0], repeated(-1, u.W-len(k[0])))
	case impl.OpStretch:
		return slices.Concat(k[0], repeated(k[0][len(k[0])-1], u.W-len(k[0])))
	}
	return s.operate(u.Op, k[0], k[1])
}

// widthsByName returns the names of the variables of a term, in order, and their widths.
func widthsByName(u impl.Term) ([]string, map[string]int) {
	widths := map[string]int{}
	var names []string
	for _, v := range variablesIn(u, nil) {
		if widths[v.Name] == 0 {
			names = append(names, v.Name)
		}
		widths[v.Name] = v.W
	}
	slices.Sort(names)
	return names, widths
}

func bitsOf(u impl.Term) int {
	n := 0
	_, widths := widthsByName(u)
	for _, w := range widths {
		n += w
	}
	return n
}

// tooWide reports whether a valid term has an operation for which its words are too wide.
func tooWide(u impl.Term) bool {
	if u.Op >= impl.OpNeg && u.Op <= impl.OpBelow && u.Kids[0].W == 16 {
		return true
	}
	return slices.ContainsFunc(u.Kids, tooWide)
}

// slowCircuitOf is CircuitOf for a valid term, word for word.
func slowCircuitOf(u impl.Term) (impl.Circuit, []int, bool) {
	names, widths := widthsByName(u)
	line := 1
	numbers := map[string][]int{}
	for _, name := range names {
		for range widths[name] {
			line++
			numbers[name] = slices.Insert(numbers[name], 0, line)
		}
	}
	if line > 31 || tooWide(u) {
		return impl.Circuit{}, nil, false
	}
	s := slowOn(circuit(line - 1))
	number := s.number(u, numbers)
	if len(s.Gates) > 360 {
		return impl.Circuit{}, nil, false
	}
	return s.Circuit, number, true
}

// slowFormula is FormulaOf for valid arguments, word for word.
func slowFormula(c impl.Circuit, lit int) impl.Formula {
	l := [][]int{{1}}
	for i, g := range c.Gates {
		line := c.Inputs + 2 + i
		l = append(l, []int{-line, g.A}, []int{-line, g.B}, []int{line, -g.A, -g.B})
	}
	l = append(l, []int{lit})
	for i, numbers := range l {
		l[i], _ = impl.MakeClause(numbers)
	}
	return impl.Formula{Vars: lastLine(c), Clauses: l}
}

// allValues returns the words that the variables of a term may have, in lexicographic order, as lists of values.
func allValues(u impl.Term) [][]impl.Value {
	l := [][]impl.Value{nil}
	names, widths := widthsByName(u)
	for _, name := range names {
		var more [][]impl.Value
		for _, before := range l {
			for n := range power(widths[name]) {
				more = append(more, append(slices.Clone(before), impl.Value{Name: name, W: widths[name], N: n}))
			}
		}
		l = more
	}
	return l
}

func wordsOf(l []impl.Value) map[string]int {
	words := map[string]int{}
	for _, v := range l {
		words[v.Name] = v.N
	}
	return words
}

func textOfValues(l []impl.Value) string {
	var parts []string
	for _, v := range l {
		parts = append(parts, v.Name+":"+strconv.Itoa(v.W)+"="+strconv.Itoa(v.N))
	}
	return strings.Join(parts, " ")
}

// circuit makes a valid circuit.
func (m *maker) circuit(inputs, gates int) impl.Circuit {
	c := circuit(inputs)
	for tries := 0; len(c.Gates) < gates && tries < 5*gates; tries++ {
		if last := lastLine(c); last > 2 {
			upper := 3 + m.below(last-2)
			g := gate((2+m.below(upper-2))*m.sign(), upper*m.sign())
			if !slices.Contains(c.Gates, g) {
				c.Gates = append(c.Gates, g)
			}
		}
	}
	return c
}

func (m *maker) sign() int {
	return 1 - 2*m.below(2)
}

// number makes a number of literals of a circuit, which are constants, equal or opposite at times.
func (m *maker) number(c impl.Circuit, w int) []int {
	last := lastLine(c)
	var l []int
	for range w {
		switch m.below(6) {
		case 0:
			l = append(l, m.sign())
		case 1:
			l = append(l, min(2, last)*m.sign())
		default:
			l = append(l, m.literal(last))
		}
	}
	return l
}

// filled returns a circuit of 30 inputs with so many gates.
func filled(gates int) impl.Circuit {
	c := circuit(30)
	for upper := 3; len(c.Gates) < gates; upper++ {
		for lower := 2; lower < upper && len(c.Gates) < gates; lower++ {
			c.Gates = append(c.Gates, gate(lower, upper))
		}
	}
	return c
}

// noLiterals are numbers that are no literals of a circuit.
func noLiterals(c impl.Circuit) []int {
	next := lastLine(c) + 1
	return []int{0, next, -next, next + 5, math.MinInt, math.MinInt + 1, math.MaxInt}
}

// badCircuits are not valid, each for one reason only.
func badCircuits() []impl.Circuit {
	least, most := math.MinInt, math.MaxInt
	return []impl.Circuit{
		circuit(-1), circuit(31), circuit(least), circuit(most), circuit(-1, gate(2, 3)), circuit(31, gate(2, 3)), filled(361), filled(362),
		circuit(2, gate(2, 3), gate(2, 3)), circuit(2, gate(2, 3), gate(-2, 3), gate(2, 3)), circuit(3, gate(2, 3), gate(2, 4), gate(3, 4), gate(2, 4)), circuit(2, gate(-2, -3), gate(-2, -3)),
		circuit(0, gate(2, 3)), circuit(1, gate(2, 3)), circuit(2, gate(2, 4)), circuit(2, gate(2, -4)), circuit(2, gate(2, 5)), circuit(2, gate(2, 3), gate(2, 5)), circuit(2, gate(2, 3), gate(4, 5)), circuit(2, gate(2, 5), gate(2, 3)),
		circuit(2, gate(1, 2)), circuit(2, gate(-1, 2)), circuit(2, gate(1, -3)), circuit(2, gate(2, 1)), circuit(2, gate(2, -1)), circuit(2, gate(1, 1)), circuit(0, gate(1, 1)), circuit(0, gate(-1, 1)),
		circuit(2, gate(3, 2)), circuit(2, gate(-3, 2)), circuit(2, gate(3, -2)), circuit(2, gate(-3, -2)), circuit(2, gate(2, 2)), circuit(2, gate(2, -2)), circuit(2, gate(-3, 3)), circuit(2, gate(2, 3), gate(4, 3)),
		circuit(2, gate(0, 2)), circuit(2, gate(2, 0)), circuit(2, gate(0, 0)), circuit(2, impl.Gate{}), circuit(0, impl.Gate{}), circuit(2, gate(2, 3), gate(0, 4)),
		circuit(2, gate(least, 3)), circuit(2, gate(2, least)), circuit(2, gate(least, least)), circuit(2, gate(least+1, 3)), circuit(2, gate(2, most)), circuit(2, gate(2, -most)), circuit(2, gate(most, most)), circuit(2, gate(least, most)), circuit(2, gate(-2, least)),
	}
}
