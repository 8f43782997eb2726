package tests

import (
	"strconv"
	"strings"
	"testing"
	"unsafe"

	"loop.example/g03219/impl"
)

func constant(w, n int) impl.Term {
	return impl.Term{Op: impl.OpConst, W: w, N: n}
}

func variable(w int, name string) impl.Term {
	return impl.Term{Op: impl.OpVar, W: w, Name: name}
}

func node(op, w, n int, kids ...impl.Term) impl.Term {
	return impl.Term{Op: op, W: w, N: n, Kids: kids}
}

// read returns the term of a text that must be one.
func read(t *testing.T, s string) impl.Term {
	t.Helper()
	u, ok := impl.ParseTerm(s)
	if !ok {
		t.Fatalf("ParseTerm(%q) fails", s)
	}
	return u
}

// termNames are the names of operations in texts of terms, written here once more so that a wrong one in the program is noticed.
var termNames = map[int]string{
	1: "not", 2: "neg", 3: "add", 4: "sub", 5: "mul", 6: "div", 7: "rem", 8: "and", 9: "or", 10: "xor", 11: "shl",
	12: "shr", 13: "sar", 14: "eq", 15: "less", 16: "below", 17: "if", 18: "join", 19: "cut", 20: "grow", 21: "stretch",
}

// textOf is FormatTerm of a valid term without the program's help.
func textOf(u impl.Term) string {
	w, n := strconv.Itoa(u.W), strconv.Itoa(u.N)
	switch u.Op {
	case impl.OpConst:
		return w + ":" + n
	case impl.OpVar:
		return u.Name + ":" + w
	}
	s := "(" + termNames[u.Op]
	switch u.Op {
	case impl.OpCut:
		s += " " + n + " " + w
	case impl.OpGrow, impl.OpStretch:
		s += " " + w
	}
	for _, kid := range u.Kids {
		s += " " + textOf(kid)
	}
	return s + ")"
}

// alike reports whether two terms are the same, where nil and empty lists are.
func alike(a, b impl.Term) bool {
	if a.Op != b.Op || a.W != b.W || a.N != b.N || a.Name != b.Name || len(a.Kids) != len(b.Kids) {
		return false
	}
	for i := range a.Kids {
		if !alike(a.Kids[i], b.Kids[i]) {
			return false
		}
	}
	return true
}

func isZero(u impl.Term) bool {
	return alike(u, impl.Term{})
}

func countNodes(u impl.Term) int {
	n := 1
	for _, kid := range u.Kids {
		n += countNodes(kid)
	}
	return n
}

// wordOf is the word for which a valid term stands, by plain arithmetic.
func wordOf(u impl.Term, words map[string]int) int {
	var k []int
	for _, kid := range u.Kids {
		k = append(k, wordOf(kid, words))
	}
	switch u.Op {
	case impl.OpConst:
		return u.N
	case impl.OpVar:
		return words[u.Name]
	case impl.OpNot:
		return power(u.W) - 1 - k[0]
	case impl.OpNeg:
		return modulo(-k[0], power(u.W))
	case impl.OpIf:
		return k[2-k[0]]
	case impl.OpJoin:
		return k[0]*power(u.Kids[1].W) + k[1]
	case impl.OpCut:
		return k[0] / power(u.N) % power(u.W)
	case impl.OpGrow:
		return k[0]
	case impl.OpStretch:
		return modulo(signed(u.Kids[0].W, k[0]), power(u.W))
	}
	return binary(u.Op, u.Kids[0].W, k[0], k[1])
}

// valuesOf are the values of a map of words, for the variables of a term.
func valuesOf(u impl.Term, words map[string]int) []impl.Value {
	l := impl.VarsOf(u)
	for i := range l {
		l[i].N = words[l[i].Name]
	}
	return l
}

// A maker makes terms by a fixed recurrence, so that each run has the same.
type maker struct{ state uint32 }

func (m *maker) below(n int) int {
	m.state = m.state*1664525 + 1013904223
	return int(m.state>>8) % n
}

// term makes a valid term of width w. The names of variables tell their widths, so that they never clash.
func (m *maker) term(w, depth int) impl.Term {
	if depth == 0 || m.below(7) == 0 {
		switch m.below(5) {
		case 0:
			return constant(w, 0)
		case 1:
			return constant(w, m.below(power(w)))
		}
		return variable(w, string(rune('a'+m.below(2)))+strconv.Itoa(w))
	}
	op := 1 + m.below(21)
	if op >= impl.OpEq && op <= impl.OpBelow {
		v := 1 + m.below(4)
		if m.below(2) == 0 {
			v = 1
		}
		return m.widened(w, node(op, 1, 0, m.term(v, depth-1), m.term(v, depth-1)))
	}
	switch op {
	case impl.OpNot, impl.OpNeg:
		return node(op, w, 0, m.term(w, depth-1))
	case impl.OpIf:
		return node(op, w, 0, m.term(1, depth-1), m.term(w, depth-1), m.term(w, depth-1))
	case impl.OpJoin:
		if w == 1 {
			return m.term(w, depth)
		}
		v := 1 + m.below(w-1)
		return node(op, w, 0, m.term(v, depth-1), m.term(w-v, depth-1))
	case impl.OpCut:
		v := w + m.below(4)
		return node(op, w, m.below(v-w+1), m.term(v, depth-1))
	case impl.OpGrow, impl.OpStretch:
		return node(op, w, 0, m.term(1+m.below(w), depth-1))
	}
	a := m.term(w, depth-1)
	if m.below(6) == 0 {
		return node(op, w, 0, a, a)
	}
	return node(op, w, 0, a, m.term(w, depth-1))
}

func (m *maker) widened(w int, u impl.Term) impl.Term {
	if u.W == w && m.below(2) == 0 {
		return u
	}
	return node(impl.OpGrow+m.below(2), w, 0, u)
}

// words makes a word for each variable of a term.
func (m *maker) words(u impl.Term) map[string]int {
	words := map[string]int{}
	for _, v := range variablesIn(u, nil) {
		words[v.Name] = m.below(power(v.W))
	}
	return words
}

func variablesIn(u impl.Term, l []impl.Term) []impl.Term {
	if u.Op == impl.OpVar {
		return append(l, u)
	}
	for _, kid := range u.Kids {
		l = variablesIn(kid, l)
	}
	return l
}

// someTerms are valid terms of all operations and of at most 240 nodes.
func someTerms(n int) []impl.Term {
	m := maker{state: 7}
	var l []impl.Term
	for len(l) < n {
		if u := m.term(1+m.below(5), m.below(6)); countNodes(u) <= 240 {
			l = append(l, u)
		}
	}
	return l
}

// nots puts OpNot around a term n times.
func nots(n int, u impl.Term) impl.Term {
	for range n {
		u = node(impl.OpNot, u.W, 0, u)
	}
	return u
}

// sized returns a term of width w with n nodes that is broad rather than deep.
func sized(w, n int) impl.Term {
	switch {
	case n == 1:
		return variable(w, "z"+strconv.Itoa(w))
	case n == 2:
		return nots(1, sized(w, 1))
	}
	return node(impl.OpMul, w, 0, sized(w, (n-1)/2), sized(w, n-1-(n-1)/2))
}

// badLeaves are terms that are not valid, each for one reason only, and of width 3 where the reason leaves it so.
func badLeaves() []impl.Term {
	a := variable(3, "a")
	named, numbered := node(impl.OpNot, 3, 0, a), node(impl.OpNot, 3, 1, a)
	named.Name = "a"
	odd := []impl.Term{
		{}, named, numbered, constant(3, 8), constant(3, -1), constant(0, 0), constant(17, 0), constant(-3, 0),
		variable(3, ""), variable(3, "A"), variable(3, "abcdefghi"), variable(3, "\xff"), variable(3, "1a"), variable(0, "a"), variable(17, "a"),
		{Op: impl.OpConst, W: 3, Name: "a"}, {Op: impl.OpVar, W: 3, Name: "a", N: 1}, {Op: impl.OpConst, W: 3, Kids: []impl.Term{a}},
		{Op: impl.OpVar, W: 3, Name: "a", Kids: []impl.Term{a}}, node(impl.OpNot, 3, 0), node(impl.OpNot, 3, 0, a, a),
		node(impl.OpAdd, 3, 0, a), node(impl.OpAdd, 3, 0, a, a, a), node(impl.OpAdd, 3, 0, a, variable(4, "b")), node(23, 3, 0, a), node(-1, 3, 0, a, a),
		node(impl.OpJoin, 6, 0, a, variable(4, "a")), node(impl.OpAdd, 3, 0, a, node(impl.OpCut, 3, 0, variable(4, "a"))), nots(240, a), sized(3, 241),
	}
	for _, n := range oddInts {
		if n < 0 || n > 16 {
			odd = append(odd, node(n, 3, 0), node(impl.OpCut, 3, n, a), node(impl.OpNot, n, 0, variable(n, "a")), constant(n, 0))
		}
		if n != 0 {
			odd = append(odd, node(impl.OpAdd, 3, n, a, a), node(impl.OpJoin, 3, n, variable(1, "b"), variable(2, "c")))
		}
	}
	return odd
}

// badTerms are badLeaves, and terms that have them as kids at some depth.
func badTerms() []impl.Term {
	l := badLeaves()
	for _, u := range badLeaves() {
		l = append(l, node(impl.OpNot, u.W, 0, u), node(impl.OpAdd, 3, 0, constant(3, 1), node(impl.OpIf, 3, 0, constant(1, 1), constant(3, 2), u)))
		l = append(l, nots(20, node(impl.OpCut, 1, 0, u)))
	}
	return l
}

// A region is the memory of a list with its spare capacity.
type region struct{ from, to uintptr }

func regionOf[T any](l []T) []region {
	if cap(l) == 0 {
		return nil
	}
	var x T
	from := uintptr(unsafe.Pointer(unsafe.SliceData(l)))
	return []region{{from, from + uintptr(cap(l))*unsafe.Sizeof(x)}}
}

// regionsOf returns the memory of all lists of some terms.
func regionsOf(terms ...impl.Term) []region {
	var l []region
	for _, u := range terms {
		l = append(l, regionOf(u.Kids)...)
		l = append(l, regionsOf(u.Kids...)...)
	}
	return l
}

func overlap(a, b region) bool {
	return a.from < b.to && b.from < a.to
}

// mustBeNew fails the test if two lists of a result share memory, or one does with an argument.
func mustBeNew(t *testing.T, label string, result, arguments []region) {
	t.Helper()
	for i, a := range result {
		for _, b := range result[:i] {
			if overlap(a, b) {
				t.Errorf("%s: two lists of the result share memory", label)
			}
		}
		for _, b := range arguments {
			if overlap(a, b) {
				t.Errorf("%s: the result shares memory with an argument", label)
			}
		}
	}
}

// roomy returns a copy of a term whose lists, the empty ones too, have other terms in spare capacity behind them.
func roomy(u impl.Term) impl.Term {
	kids := make([]impl.Term, 0, len(u.Kids)+2)
	for _, kid := range u.Kids {
		kids = append(kids, roomy(kid))
	}
	n := len(kids)
	u.Kids = append(kids, variable(2, "spare"), constant(5, 17))[:n]
	return u
}

// dump writes everything that a term has, with what is in spare capacity.
func dump(u impl.Term) string {
	parts := []string{strconv.Itoa(u.Op), strconv.Itoa(u.W), strconv.Itoa(u.N), strconv.Quote(u.Name), strconv.Itoa(len(u.Kids))}
	for _, kid := range u.Kids[:cap(u.Kids)] {
		parts = append(parts, dump(kid))
	}
	return "[" + strings.Join(parts, " ") + "]"
}
