package tests

import (
	"math"
	"slices"
	"strconv"
	"strings"
	"testing"

	"loop.example/g03219/impl"
)

func TestP2TermOk(t *testing.T) {
	a3, b3, c1 := variable(3, "a"), variable(3, "b"), variable(1, "c")
	terms := []impl.Term{
		constant(1, 0), constant(1, 1), constant(3, 7), constant(16, 65535), {Op: impl.OpConst, W: 2, N: 3, Kids: []impl.Term{}},
		a3, variable(16, "abcdefgh"), variable(1, "z9"), {Op: impl.OpVar, W: 2, Name: "if", Kids: []impl.Term{}},
		node(impl.OpIf, 3, 0, c1, a3, b3), node(impl.OpIf, 1, 0, c1, c1, c1),
		node(impl.OpJoin, 4, 0, a3, c1), node(impl.OpJoin, 4, 0, c1, a3), node(impl.OpJoin, 16, 0, variable(15, "d"), c1),
		node(impl.OpCut, 1, 0, a3), node(impl.OpCut, 1, 2, a3), node(impl.OpCut, 2, 1, a3), node(impl.OpCut, 3, 0, a3),
		node(impl.OpGrow, 3, 0, a3), node(impl.OpGrow, 16, 0, a3), node(impl.OpStretch, 3, 0, a3), node(impl.OpStretch, 16, 0, c1),
		node(impl.OpAdd, 3, 0, a3, a3), node(impl.OpAdd, 3, 0, a3, node(impl.OpCut, 3, 1, variable(4, "b"))),
		nots(239, a3), sized(3, 240), sized(16, 240),
	}
	for op := 1; op <= 16; op++ {
		for _, w := range []int{1, 3, 16} {
			x, y := variable(w, "x"), constant(w, 1)
			switch {
			case op <= impl.OpNeg:
				terms = append(terms, node(op, w, 0, x), node(op, w, 0, y))
			case op < impl.OpEq:
				terms = append(terms, node(op, w, 0, x, y), node(op, w, 0, y, x))
			default:
				terms = append(terms, node(op, 1, 0, x, y), node(op, 1, 0, x, x))
			}
		}
	}
	for _, u := range append(terms, someTerms(300)...) {
		if !impl.TermOk(u) {
			t.Errorf("TermOk(%s) = false", textOf(u))
		}
	}
}

// TestP2TermOkNot has terms each of which breaks one condition.
func TestP2TermOkNot(t *testing.T) {
	for i, u := range badTerms() {
		if impl.TermOk(u) {
			t.Errorf("TermOk of bad term %d (%.200s) = true", i, dump(u))
		}
	}
}

func TestP2TermOkWidthsOfKids(t *testing.T) {
	v := func(w int) impl.Term { return variable(w, "v"+strconv.Itoa(w)) }
	fits := func(u impl.Term, want bool) {
		t.Helper()
		if got := impl.TermOk(u); got != want {
			t.Errorf("TermOk(%s) with W %d = %v", textOf(u), u.W, got)
		}
	}
	for w := 1; w <= 6; w++ {
		for a := 1; a <= 6; a++ {
			fits(node(impl.OpNot, w, 0, v(a)), a == w)
			fits(node(impl.OpNeg, w, 0, v(a)), a == w)
			fits(node(impl.OpGrow, w, 0, v(a)), a <= w)
			fits(node(impl.OpStretch, w, 0, v(a)), a <= w)
			for n := -2; n <= 7; n++ {
				fits(node(impl.OpCut, w, n, v(a)), n >= 0 && n+w <= a)
			}
			for b := 1; b <= 6; b++ {
				for op := impl.OpAdd; op <= impl.OpSar; op++ {
					fits(node(op, w, 0, v(a), v(b)), a == w && b == w)
				}
				for op := impl.OpEq; op <= impl.OpBelow; op++ {
					fits(node(op, w, 0, v(a), v(b)), a == b && w == 1)
				}
				fits(node(impl.OpJoin, w, 0, v(a), v(b)), a+b == w)
				for c := 1; c <= 3; c++ {
					fits(node(impl.OpIf, w, 0, v(c), v(a), v(b)), c == 1 && a == w && b == w)
				}
			}
		}
	}
	fits(node(impl.OpJoin, 17, 0, v(8), v(9)), false)
	fits(node(impl.OpGrow, 17, 0, v(8)), false)
	fits(node(impl.OpCut, 1, math.MaxInt, v(8)), false)
	fits(node(impl.OpCut, 1, math.MinInt, v(8)), false)
}

func TestP2TermOkNumberOfKids(t *testing.T) {
	needed := map[int]int{impl.OpConst: 0, impl.OpVar: 0, impl.OpNot: 1, impl.OpNeg: 1, impl.OpIf: 3, impl.OpCut: 1, impl.OpGrow: 1, impl.OpStretch: 1}
	for op := -2; op <= 25; op++ {
		want, known := needed[op]
		if !known && op >= 1 && op <= 18 {
			want, known = 2, true
		}
		for n := 0; n <= 4; n++ {
			u := impl.Term{Op: op, W: 1}
			if op == impl.OpVar {
				u.Name = "a"
			}
			if op == impl.OpJoin {
				u.W = 2
			}
			for range n {
				u.Kids = append(u.Kids, variable(1, "b"))
			}
			if got := impl.TermOk(u); got != (known && n == want) {
				t.Errorf("TermOk with Op %d and %d kids = %v", op, n, got)
			}
		}
	}
}

// TestP2TermOkZeroFields checks where N and Name must be zero.
func TestP2TermOkZeroFields(t *testing.T) {
	for _, u := range someTerms(200) {
		named, numbered := u, u
		named.Name, numbered.N = "q", 1
		if u.Op != impl.OpVar && impl.TermOk(named) {
			t.Errorf("TermOk of %s with a Name = true", textOf(u))
		}
		if u.Op != impl.OpConst && u.Op != impl.OpCut && impl.TermOk(numbered) {
			t.Errorf("TermOk of %s with N 1 = true", textOf(u))
		}
	}
}

func TestP2TermOkSizes(t *testing.T) {
	for _, termOf := range []func(n int) impl.Term{
		func(n int) impl.Term { return sized(2, n) },
		func(n int) impl.Term { return nots(n-1, variable(2, "a")) },
		func(n int) impl.Term { return nots(n-1, constant(2, 1)) },
	} {
		for _, n := range []int{1, 2, 3, 239, 240, 241, 242, 500} {
			u := termOf(n)
			if countNodes(u) != n {
				t.Fatalf("the test made %d nodes in place of %d", countNodes(u), n)
			}
			if got := impl.TermOk(u); got != (n <= impl.MaxTerm) {
				t.Errorf("TermOk of a term of %d nodes = %v", n, got)
			}
		}
	}
	// Each kid occurs twice, so that there are far more nodes than can be gone through.
	u := variable(2, "a")
	for range 60 {
		u = node(impl.OpAdd, 2, 0, u, u)
	}
	if impl.TermOk(u) {
		t.Error("TermOk of a term of 2^61 - 1 nodes = true")
	}
}

func TestP2SizeOf(t *testing.T) {
	if got := impl.SizeOf(impl.Term{}); got != 1 {
		t.Errorf("SizeOf of the zero value = %d", got)
	}
	for _, n := range []int{1, 2, 3, 10, 240, 241, 5000} {
		if got := impl.SizeOf(sized(3, n)); got != n {
			t.Errorf("SizeOf of a broad term of %d nodes = %d", n, got)
		}
		if got := impl.SizeOf(nots(n-1, impl.Term{Op: -5})); got != n {
			t.Errorf("SizeOf of a deep term of %d nodes = %d", n, got)
		}
	}
	for _, u := range slices.Concat(someTerms(300), badTerms()) {
		if got := impl.SizeOf(u); got != countNodes(u) {
			t.Errorf("SizeOf(%.200s) = %d, want %d", dump(u), got, countNodes(u))
		}
		leaf := impl.Term{Op: impl.OpConst, W: -1, Kids: []impl.Term{u, {}, u}}
		if got := impl.SizeOf(leaf); got != 2+2*countNodes(u) {
			t.Errorf("SizeOf of a constant with kids = %d", got)
		}
	}
	if got := impl.SizeOf(roomy(sized(3, 100))); got != 100 {
		t.Errorf("SizeOf of lists with spare capacity = %d", got)
	}
}

func TestP11VeryDeepTerms(t *testing.T) {
	const depth = 300000
	a, b, c := nots(depth, constant(1, 0)), nots(depth, constant(1, 0)), nots(depth, constant(1, 1))
	if got := impl.SizeOf(a); got != depth+1 {
		t.Errorf("SizeOf = %d", got)
	}
	if impl.CompareTerms(a, b) != 0 || impl.CompareTerms(a, c) != -1 || impl.CompareTerms(c, a) != 1 {
		t.Error("CompareTerms of very deep terms")
	}
	if impl.TermOk(a) || len(impl.VarsOf(a)) != 0 || !isZero(impl.Simplify(a)) || impl.IsSimple(a) || impl.FormatTerm(a) != "" || len(impl.TableOf(a)) != 0 {
		t.Error("a very deep term counts as valid")
	}
}

func TestP2VarsOf(t *testing.T) {
	cases := []struct {
		text string
		want []impl.Value
	}{
		{"3:5", nil},
		{"a:3", []impl.Value{{Name: "a", W: 3}}},
		{"(add a:3 a:3)", []impl.Value{{Name: "a", W: 3}}},
		{"(if z:1 (add b:4 a:4) (grow 4 m:2))", []impl.Value{{Name: "a", W: 4}, {Name: "b", W: 4}, {Name: "m", W: 2}, {Name: "z", W: 1}}},
		{"(join i2:1 (join i10:2 (join i1:3 i:4)))", []impl.Value{{Name: "i", W: 4}, {Name: "i1", W: 3}, {Name: "i10", W: 2}, {Name: "i2", W: 1}}},
		{"(join (join b:2 a:2) (join b:2 a:2))", []impl.Value{{Name: "a", W: 2}, {Name: "b", W: 2}}},
	}
	for _, c := range cases {
		if got := impl.VarsOf(read(t, c.text)); !slices.Equal(got, c.want) {
			t.Errorf("VarsOf(%s) = %v", c.text, got)
		}
	}
	for _, u := range badTerms() {
		if got := impl.VarsOf(u); len(got) != 0 {
			t.Errorf("VarsOf(%.200s) = %v", dump(u), got)
		}
	}
	// 80 variables: more than a list of values may have, but not more than a term may have.
	u := variable(1, "x00")
	for i := 1; i < 80; i++ {
		u = node(impl.OpXor, 1, 0, variable(1, "x"+strconv.Itoa(i/10)+strconv.Itoa(i%10)), u)
	}
	got := impl.VarsOf(u)
	if len(got) != 80 || got[0].Name != "x00" || got[79].Name != "x79" || !slices.IsSortedFunc(got, func(a, b impl.Value) int { return strings.Compare(a.Name, b.Name) }) {
		t.Errorf("VarsOf a term of 80 variables = %v", got)
	}
}

func TestP2ValuesOk(t *testing.T) {
	many := make([]impl.Value, 31)
	for i := range many {
		many[i] = impl.Value{Name: string([]byte{'a' + byte(i/10), '0' + byte(i%10)}), W: 2, N: 3}
	}
	lists := [][]impl.Value{
		nil, {}, {{Name: "a", W: 1, N: 0}}, {{Name: "a", W: 16, N: 65535}}, {{Name: "a", W: 3, N: 7}, {Name: "b", W: 1, N: 1}},
		{{Name: "a", W: 1}, {Name: "a0", W: 2}, {Name: "aa", W: 3}, {Name: "b", W: 4}}, many[:30], many[1:],
	}
	for _, l := range lists {
		if !impl.ValuesOk(l) {
			t.Errorf("ValuesOk(%v) = false", l)
		}
	}
	for _, l := range badValues() {
		if impl.ValuesOk(l) {
			t.Errorf("ValuesOk(%v) = true", l)
		}
	}
	if impl.ValuesOk(many) {
		t.Error("ValuesOk of 31 values = true")
	}
}

// badValues are lists that are no values, each for one reason.
func badValues() [][]impl.Value {
	a := impl.Value{Name: "a", W: 3, N: 1}
	l := [][]impl.Value{
		{{}}, {a, a}, {a, {Name: "a", W: 4, N: 1}}, {{Name: "b", W: 3}, a}, {a, {Name: "c", W: 3}, {Name: "b", W: 3}}, {a, {Name: "b", W: 3}, {Name: "b", W: 3}},
		{{Name: "aa", W: 1}, {Name: "a", W: 1}}, {{Name: "a", W: 3, N: 8}}, {{Name: "a", W: 3, N: -1}}, {{Name: "a", W: 0}}, {{Name: "a", W: 17}}, {{Name: "a", W: -1}},
		{a, {Name: "b", W: 1, N: 2}}, {{Name: "", W: 3}}, {{Name: "A", W: 3}}, {{Name: "abcdefghi", W: 3}}, {{Name: "1", W: 3}}, {a, {Name: "\xff", W: 3}}, {a, {Name: "b c", W: 3}},
	}
	for _, n := range oddInts {
		if n < 1 || n > 16 {
			l = append(l, []impl.Value{{Name: "a", W: n, N: 0}})
		}
		if n < 0 || n > 7 {
			l = append(l, []impl.Value{{Name: "a", W: 3, N: n}})
		}
	}
	return l
}

func TestP3EvalTerm(t *testing.T) {
	m := maker{state: 3}
	for _, u := range someTerms(2000) {
		for range 4 {
			words := m.words(u)
			if got, ok := impl.EvalTerm(u, valuesOf(u, words)); !ok || got != wordOf(u, words) {
				t.Errorf("EvalTerm(%s, %v) = %d, %v, want %d", textOf(u), words, got, ok, wordOf(u, words))
			}
		}
	}
}

func TestP3EvalTermOfEachOperation(t *testing.T) {
	for _, w := range []int{1, 2, 3, 16} {
		for _, a := range someWords(w) {
			for _, b := range someWords(w) {
				words := map[string]int{"a": a, "b": b}
				x, y := variable(w, "a"), variable(w, "b")
				terms := []impl.Term{node(impl.OpNot, w, 0, x), node(impl.OpNeg, w, 0, x), node(impl.OpCut, 1, w-1, x), node(impl.OpGrow, 16, 0, x), node(impl.OpStretch, 16, 0, x)}
				for op := impl.OpAdd; op <= impl.OpBelow; op++ {
					terms = append(terms, node(op, impl.ResultWidth(op, w), 0, x, y))
				}
				terms = append(terms, node(impl.OpIf, w, 0, node(impl.OpEq, 1, 0, x, constant(w, 1)), x, y))
				if w <= 8 {
					terms = append(terms, node(impl.OpJoin, 2*w, 0, x, y))
				}
				for _, u := range terms {
					if got, ok := impl.EvalTerm(u, valuesOf(u, words)); !ok || got != wordOf(u, words) {
						t.Errorf("EvalTerm(%s) with %d and %d = %d, %v", textOf(u), a, b, got, ok)
					}
				}
			}
		}
	}
}

func TestP2EvalTermValues(t *testing.T) {
	many := make([]impl.Value, 31)
	for i := range many {
		many[i] = impl.Value{Name: string([]byte{'a' + byte(i/10), '0' + byte(i%10)}), W: 2, N: 3}
	}
	cases := []struct {
		text string
		l    []impl.Value
		want int
		ok   bool
	}{
		{"3:5", nil, 5, true},
		{"3:5", []impl.Value{{Name: "a", W: 1, N: 1}}, 5, true},
		{"b:3", []impl.Value{{Name: "b", W: 3, N: 6}}, 6, true},
		{"b:3", []impl.Value{{Name: "a", W: 4, N: 1}, {Name: "b", W: 3, N: 6}, {Name: "c", W: 1, N: 0}}, 6, true},
		{"b:3", nil, 0, false},
		{"b:3", []impl.Value{{Name: "a", W: 3, N: 6}}, 0, false},
		{"b:3", []impl.Value{{Name: "c", W: 3, N: 6}}, 0, false},
		{"b:3", []impl.Value{{Name: "b", W: 4, N: 6}}, 0, false},
		{"b:3", []impl.Value{{Name: "b", W: 2, N: 3}}, 0, false},
		{"(add b:3 c:3)", []impl.Value{{Name: "b", W: 3, N: 6}}, 0, false},
		{"(add b:3 c:3)", []impl.Value{{Name: "c", W: 3, N: 6}}, 0, false},
		{"(if 1:1 a:2 b:2)", []impl.Value{{Name: "a", W: 2, N: 2}}, 0, false},
		{"(if 1:0 a:2 b:2)", []impl.Value{{Name: "b", W: 2, N: 2}}, 0, false},
		{"(if 1:1 a:2 b:2)", []impl.Value{{Name: "a", W: 2, N: 2}, {Name: "b", W: 3, N: 2}}, 0, false},
		{"(if 1:1 a:2 b:2)", []impl.Value{{Name: "a", W: 2, N: 2}, {Name: "b", W: 2, N: 1}}, 2, true},
		{"(mul 3:0 b:3)", nil, 0, false},
		{"d0:2", many[:30], 0, false},
		{"c9:2", many[:30], 3, true},
		{"c9:2", many, 0, false},
	}
	for _, c := range cases {
		if got, ok := impl.EvalTerm(read(t, c.text), c.l); got != c.want || ok != c.ok {
			t.Errorf("EvalTerm(%s, %v) = %d, %v, want %d, %v", c.text, c.l, got, ok, c.want, c.ok)
		}
	}
	for _, l := range badValues() {
		if got, ok := impl.EvalTerm(constant(3, 5), l); got != 0 || ok {
			t.Errorf("EvalTerm of 3:5 with %v = %d, %v", l, got, ok)
		}
	}
	values := []impl.Value{{Name: "a", W: 3, N: 1}, {Name: "b", W: 1, N: 1}, {Name: "c", W: 2, N: 1}, {Name: "z3", W: 3, N: 1}}
	for _, u := range badTerms() {
		if got, ok := impl.EvalTerm(u, values); got != 0 || ok {
			t.Errorf("EvalTerm(%.200s) = %d, %v", dump(u), got, ok)
		}
	}
}

// TestP3CompareTerms has a list of terms in ascending order, some of which are not valid.
func TestP3CompareTerms(t *testing.T) {
	a, b := variable(3, "a"), variable(3, "b")
	l := []impl.Term{
		{Op: math.MinInt}, {Op: -1, W: 9}, {W: math.MinInt, N: 5}, {W: -1, N: 3}, {}, {Name: "\x00"}, {N: 1}, constant(1, 0), constant(1, 1), constant(2, 0), constant(2, 3), constant(3, 0),
		node(impl.OpNot, 2, 0, constant(2, 1)), node(impl.OpNot, 3, math.MinInt, b), node(impl.OpNot, 3, -1, b), node(impl.OpNot, 3, 0), node(impl.OpNot, 3, 0, constant(3, 1)),
		node(impl.OpNot, 3, 0, a), node(impl.OpNot, 3, 0, a, constant(1, 0)), node(impl.OpNot, 3, 0, b), node(impl.OpNeg, 1, 0, constant(1, 0)), node(impl.OpNeg, 3, 0, a),
		node(impl.OpAdd, 3, 0, a, a), node(impl.OpAdd, 3, 0, a, b), node(impl.OpAdd, 3, 0, b), node(impl.OpAdd, 3, 0, b, a), node(impl.OpAdd, 3, 0, b, b), node(impl.OpAdd, 3, 0, b, b, a),
		node(impl.OpSub, 3, 0, node(impl.OpAdd, 3, 0, a, a), b), node(impl.OpSub, 3, 0, node(impl.OpAdd, 3, 0, a, b), a), node(impl.OpSub, 3, 0, node(impl.OpAdd, 3, 0, a, b), b), node(impl.OpSub, 3, 0, node(impl.OpAdd, 3, 0, a, b, a), a),
		node(impl.OpCut, 1, 0, b), node(impl.OpCut, 1, 1, a), node(impl.OpCut, 1, 2, a), node(impl.OpCut, 2, 0, a), node(impl.OpGrow, 3, 0, a), node(impl.OpStretch, 3, 0, a),
		variable(1, "z"), variable(3, ""), variable(3, "A"), a, variable(3, "a\x00"), variable(3, "a0"), variable(3, "aa"), b, variable(3, "\x80"), variable(3, "\xff"),
		{Op: impl.OpVar, W: 3, Name: "\xff", Kids: []impl.Term{{}}}, {Op: impl.OpVar, W: 3, N: 1, Name: "a"}, variable(4, "a"), variable(math.MaxInt, "a"), {Op: 23}, {Op: math.MaxInt},
	}
	for i, x := range l {
		for j, y := range l {
			want := 0
			if i < j {
				want = -1
			}
			if i > j {
				want = 1
			}
			if got := impl.CompareTerms(x, y); got != want {
				t.Errorf("CompareTerms(%s, %s) = %d, want %d", dump(x), dump(y), got, want)
			}
		}
	}
}

func TestP3CompareTermsOrders(t *testing.T) {
	terms := slices.Concat(someTerms(400), someTerms(20))
	slices.SortFunc(terms, impl.CompareTerms)
	for i, x := range terms {
		for j, y := range terms {
			got := impl.CompareTerms(x, y)
			if i < j && got > 0 || got != -impl.CompareTerms(y, x) || got < -1 || got > 1 {
				t.Fatalf("CompareTerms(%s, %s) = %d does not order", textOf(x), textOf(y), got)
			}
			if (got == 0) != (impl.FormatTerm(x) == impl.FormatTerm(y)) || (got == 0) != alike(x, y) {
				t.Fatalf("CompareTerms(%s, %s) = %d", textOf(x), textOf(y), got)
			}
		}
	}
	if impl.CompareTerms(constant(1, 1), impl.Term{W: 1, N: 1, Kids: []impl.Term{}}) != 0 {
		t.Error("CompareTerms distinguishes nil from the empty list")
	}
	if impl.CompareTerms(roomy(terms[99]), terms[99]) != 0 {
		t.Error("CompareTerms compares spare capacity")
	}
}

func TestP2ConstTermAndVarTerm(t *testing.T) {
	for _, w := range append(slices.Clone(noWidths), 1, 2, 3, 8, 15, 16) {
		for _, n := range append(slices.Clone(oddInts), 5, 7, 32767, 65534) {
			want := impl.Term{}
			if w >= 1 && w <= 16 && n >= 0 && n < power(w) {
				want = constant(w, n)
			}
			if got := impl.ConstTerm(w, n); !alike(got, want) {
				t.Errorf("ConstTerm(%d, %d) = %s", w, n, dump(got))
			}
		}
		for _, name := range []string{"a", "z9", "abcdefgh", "r0", "if", "", "A", "0", "abcdefghi", "a b", "a:", "\xff", "a\n"} {
			want := impl.Term{}
			if w >= 1 && w <= 16 && impl.IsName(name) {
				want = variable(w, name)
			}
			if got := impl.VarTerm(w, name); !alike(got, want) {
				t.Errorf("VarTerm(%d, %q) = %s", w, name, dump(got))
			}
		}
	}
}
