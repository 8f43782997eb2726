package tests

import (
	"slices"
	"strconv"
	"testing"

	"loop.example/g03219/impl"
)

func TestP3PutTerm(t *testing.T) {
	for _, c := range []struct{ t, name, u, want string }{
		{"a:3", "a", "b:3", "b:3"}, {"a:3", "a", "a:3", "a:3"}, {"a:3", "a", "3:5", "3:5"}, {"a:3", "b", "3:5", "a:3"}, {"3:1", "a", "3:5", "3:1"},
		{"(add a:3 b:3)", "a", "(not b:3)", "(add (not b:3) b:3)"}, {"(add a:3 a:3)", "a", "(add a:3 3:1)", "(add (add a:3 3:1) (add a:3 3:1))"},
		{"(if c:1 (not a:3) (cut 0 3 (join a:3 a:3)))", "a", "3:2", "(if c:1 (not 3:2) (cut 0 3 (join 3:2 3:2)))"},
		// Nothing is made simpler.
		{"(add a:3 3:0)", "a", "3:1", "(add 3:1 3:0)"}, {"(not a:3)", "a", "(not b:3)", "(not (not b:3))"}, {"(add a:3 b:3)", "a", "c:3", "(add c:3 b:3)"},
		// Names that no variable has, and widths that do not count then.
		{"a:3", "", "4:5", "a:3"}, {"a:3", "A", "4:5", "a:3"}, {"a:3", "\xff", "4:5", "a:3"}, {"a:3", "b", "4:5", "a:3"}, {"a:3", "aa", "a:4", "a:3"}, {"(not a:3)", "b", "a:4", "(not a:3)"},
		// The variable with another width is not there any more.
		{"b:3", "b", "(cut 0 3 b:4)", "(cut 0 3 b:4)"}, {"(add b:3 b:3)", "b", "(cut 1 3 b:4)", "(add (cut 1 3 b:4) (cut 1 3 b:4))"}, {"(join a:2 c:3)", "a", "(cut 0 2 b:4)", "(join (cut 0 2 b:4) c:3)"},
	} {
		got, ok := impl.PutTerm(read(t, c.t), c.name, read(t, c.u))
		if !ok || !alike(got, read(t, c.want)) {
			t.Errorf("PutTerm(%s, %q, %s) = %s, %v", c.t, c.name, c.u, dump(got), ok)
		}
	}
}

func TestP3PutTermFails(t *testing.T) {
	for _, c := range []struct{ t, name, u string }{
		{"a:3", "a", "4:5"}, {"a:3", "a", "b:2"}, {"(grow 8 a:3)", "a", "b:4"}, {"(eq a:3 a:3)", "a", "b:4"}, {"(join b:2 a:3)", "a", "b:4"}, {"(cut 0 1 a:3)", "a", "a:4"},
		{"(join a:2 b:3)", "a", "(cut 0 2 b:4)"}, {"(add a:3 b:3)", "a", "(cut 0 3 b:4)"}, {"(add a:3 (not b:3))", "b", "(grow 3 a:2)"},
	} {
		if got, ok := impl.PutTerm(read(t, c.t), c.name, read(t, c.u)); ok || !isZero(got) {
			t.Errorf("PutTerm(%s, %q, %s) = %s, %v", c.t, c.name, c.u, dump(got), ok)
		}
	}
	for _, u := range badTerms() {
		for _, name := range []string{"a", "q", ""} {
			if got, ok := impl.PutTerm(variable(3, "a"), name, u); ok || !isZero(got) {
				t.Errorf("PutTerm(a:3, %q, %.200s) = %.200s, %v", name, dump(u), dump(got), ok)
			}
			if got, ok := impl.PutTerm(u, name, constant(3, 1)); ok || !isZero(got) {
				t.Errorf("PutTerm(%.200s, %q, 3:1) = %.200s, %v", dump(u), name, dump(got), ok)
			}
		}
	}
}

func TestP3PutTermSizes(t *testing.T) {
	a := variable(3, "a")
	for _, c := range []struct {
		t  impl.Term
		n  int
		ok bool
	}{
		{node(impl.OpAdd, 3, 0, a, a), 119, true}, {node(impl.OpAdd, 3, 0, a, a), 120, false}, {nots(1, node(impl.OpAdd, 3, 0, a, a)), 119, true},
		{a, 240, true}, {nots(1, a), 239, true}, {nots(1, a), 240, false}, {nots(239, a), 1, true}, {nots(239, a), 2, false}, {nots(239, variable(3, "b")), 240, true},
		{node(impl.OpIf, 3, 0, variable(1, "b"), a, a), 119, true}, {node(impl.OpIf, 3, 0, variable(1, "b"), a, a), 120, false},
	} {
		got, ok := impl.PutTerm(c.t, "a", sized(3, c.n))
		if ok != c.ok || ok && !impl.TermOk(got) || !ok && !isZero(got) {
			t.Errorf("PutTerm(%s) of %d nodes: %d nodes, %v", textOf(c.t), c.n, countNodes(got), ok)
		}
	}
	everywhere := a
	for range 119 {
		everywhere = node(impl.OpXor, 3, 0, a, everywhere)
	}
	if got, ok := impl.PutTerm(everywhere, "a", sized(3, 240)); ok || !isZero(got) {
		t.Errorf("PutTerm of 240 nodes at 120 places: %d nodes, %v", countNodes(got), ok)
	}
}

// TestP3PutTermStandsForWhatItShould compares with the word of u taken for the variable.
func TestP3PutTermStandsForWhatItShould(t *testing.T) {
	m := maker{state: 17}
	done := 0
	terms := someTerms(3000)
	for i, u := range terms {
		put := terms[(i*7+1)%len(terms)]
		for _, name := range []string{"a", "b"} {
			name += strconv.Itoa(put.W)
			occurs := 0
			for _, v := range variablesIn(u, nil) {
				if v.Name == name {
					occurs++
				}
			}
			got, ok := impl.PutTerm(u, name, put)
			size := countNodes(u) + occurs*(countNodes(put)-1)
			if ok != (size <= 240) || ok && countNodes(got) != size {
				t.Fatalf("PutTerm(%s, %s, %s) = %s, %v", textOf(u), name, textOf(put), dump(got), ok)
			}
			if !ok || occurs == 0 {
				continue
			}
			done++
			words := m.words(node(impl.OpJoin, 2, 0, u, put))
			inside := map[string]int{}
			for k, n := range words {
				inside[k] = n
			}
			inside[name] = wordOf(put, words)
			if wordOf(got, words) != wordOf(u, inside) {
				t.Fatalf("PutTerm(%s, %s, %s) = %s stands for %d for %v", textOf(u), name, textOf(put), textOf(got), wordOf(got, words), words)
			}
		}
	}
	if done < 300 {
		t.Errorf("something was put only %d times", done)
	}
}

func TestP3AllOf(t *testing.T) {
	for _, c := range []struct {
		l    []string
		want string
	}{
		{nil, "1:1"}, {[]string{"1:1"}, "1:1"}, {[]string{"1:0"}, "1:0"}, {[]string{"a:1"}, "a:1"}, {[]string{"a:1", "b:1"}, "(and a:1 b:1)"}, {[]string{"b:1", "a:1"}, "(and a:1 b:1)"},
		{[]string{"a:1", "a:1"}, "a:1"}, {[]string{"a:1", "1:1", "b:1", "1:1"}, "(and a:1 b:1)"}, {[]string{"a:1", "1:0", "b:1"}, "1:0"}, {[]string{"1:0", "a:1"}, "1:0"}, {[]string{"a:1", "(not a:1)"}, "(and (not a:1) a:1)"},
		{[]string{"a:1", "b:1", "c:1"}, "(and (and a:1 b:1) c:1)"}, {[]string{"c:1", "b:1", "a:1"}, "(and (and b:1 c:1) a:1)"}, {[]string{"a:1", "b:1", "(and a:1 b:1)"}, "(and a:1 b:1)"}, {[]string{"a:1", "b:1", "a:1"}, "(and (and a:1 b:1) a:1)"},
		{[]string{"(not (not a:1))"}, "(not (not a:1))"}, {[]string{"(eq 1:1 a:1)", "(less a:1 1:0)"}, "(and (eq 1:1 a:1) (less a:1 1:0))"}, {[]string{"(eq a:1 a:1)", "b:1"}, "(and (eq a:1 a:1) b:1)"},
		// What was left out cannot clash any more.
		{[]string{"(eq a:2 b:2)", "1:0", "(eq a:3 b:3)"}, "1:0"}, {[]string{"1:0", "(eq a:2 b:2)", "(eq a:3 b:3)"}, "1:0"},
	} {
		var l []impl.Term
		for _, s := range c.l {
			l = append(l, read(t, s))
		}
		if got, ok := impl.AllOf(l); !ok || !alike(got, read(t, c.want)) {
			t.Errorf("AllOf(%q) = %s, %v", c.l, dump(got), ok)
		}
	}
	if got, ok := impl.AllOf([]impl.Term{}); !ok || !alike(got, constant(1, 1)) {
		t.Errorf("AllOf of the empty list = %s, %v", dump(got), ok)
	}
}

func TestP3AllOfFails(t *testing.T) {
	a := variable(1, "a")
	lists := [][]impl.Term{
		{{}}, {variable(2, "b")}, {constant(2, 1)}, {a, constant(3, 0)}, {constant(1, 0), variable(2, "b")}, {node(impl.OpEq, 1, 0, variable(2, "b"), constant(2, 1)), node(impl.OpEq, 1, 0, variable(3, "b"), constant(3, 1))},
		{a, node(impl.OpCut, 1, 0, variable(2, "a"))}, {sized(1, 239)}, {sized(1, 240)}, {sized(1, 241)}, {constant(1, 0), sized(1, 239)}, {a, sized(1, 119), nots(118, variable(1, "b")), a},
	}
	for _, u := range badTerms() {
		lists = append(lists, []impl.Term{u}, []impl.Term{a, constant(1, 0), u})
	}
	for _, l := range lists {
		if got, ok := impl.AllOf(l); ok || !isZero(got) {
			t.Errorf("AllOf of %d terms = %.200s, %v", len(l), dump(got), ok)
		}
	}
	if got, ok := impl.AllOf([]impl.Term{sized(1, 238)}); !ok || !alike(got, sized(1, 238)) {
		t.Errorf("AllOf of a term of 238 nodes: %d nodes, %v", countNodes(got), ok)
	}
	if got, ok := impl.AllOf([]impl.Term{sized(1, 119), nots(119, variable(1, "b"))}); !ok || countNodes(got) != 240 {
		t.Errorf("AllOf of terms of 119 and 120 nodes: %d nodes, %v", countNodes(got), ok)
	}
}

func TestP3AllOfIsOneWhereAllAre(t *testing.T) {
	m := maker{state: 19}
	for range 500 {
		var l []impl.Term
		size := 2
		for range m.below(5) {
			u := m.term(1, m.below(4))
			l = append(l, u)
			size += countNodes(u) + 1
		}
		got, ok := impl.AllOf(l)
		if !ok && size <= 240 {
			t.Fatalf("AllOf of %d terms fails", len(l))
		}
		for range 8 {
			words := m.words(impl.Term{Op: impl.OpJoin, Kids: l})
			want := 1
			for _, u := range l {
				want *= wordOf(u, words)
			}
			if ok && wordOf(got, words) != want {
				t.Fatalf("AllOf = %s, which stands for another word for %v", textOf(got), words)
			}
		}
	}
}

func TestP3PutValues(t *testing.T) {
	l := []impl.Value{{Name: "a", W: 3, N: 2}, {Name: "c", W: 1, N: 0}, {Name: "d", W: 16, N: 65535}}
	for _, c := range []making{
		{"3:5", "3:5"}, {"a:3", "3:2"}, {"b:3", "b:3"}, {"(add a:3 b:3)", "(add 3:2 b:3)"}, {"(add b:3 a:3)", "(add 3:2 b:3)"}, {"(add a:3 a:3)", "3:4"}, {"(if c:1 a:3 b:3)", "b:3"},
		{"(not (not b:3))", "b:3"}, {"(add 3:0 b:3)", "b:3"}, {"(add a:3 (add a:3 b:3))", "(add 3:4 b:3)"}, {"(join c:1 b:3)", "(join 1:0 b:3)"}, {"(not d:16)", "16:0"}, {"(less b:3 (sub a:3 3:2))", "1:0"},
	} {
		got, ok := impl.PutValues(read(t, c.from), l)
		if !ok || !alike(got, read(t, c.want)) {
			t.Errorf("PutValues(%s) = %s, %v, want %s", c.from, dump(got), ok, c.want)
		}
	}
	if got, ok := impl.PutValues(read(t, "(add b:3 (not (not a:3)))"), nil); !ok || !alike(got, read(t, "(add a:3 b:3)")) {
		t.Errorf("PutValues without values = %s, %v", dump(got), ok)
	}
}

func TestP3PutValuesFails(t *testing.T) {
	for _, c := range []struct {
		text string
		l    []impl.Value
	}{
		{"a:3", []impl.Value{{Name: "a", W: 4, N: 1}}}, {"(add a:3 b:3)", []impl.Value{{Name: "a", W: 3, N: 1}, {Name: "b", W: 2, N: 1}}}, {"(mul 3:0 a:3)", []impl.Value{{Name: "a", W: 2, N: 1}}},
	} {
		if got, ok := impl.PutValues(read(t, c.text), c.l); ok || !isZero(got) {
			t.Errorf("PutValues(%s, %v) = %s, %v", c.text, c.l, dump(got), ok)
		}
	}
	for _, l := range badValues() {
		if got, ok := impl.PutValues(constant(3, 5), l); ok || !isZero(got) {
			t.Errorf("PutValues(3:5, %v) = %s, %v", l, dump(got), ok)
		}
	}
	for _, u := range badTerms() {
		if got, ok := impl.PutValues(u, nil); ok || !isZero(got) {
			t.Errorf("PutValues(%.200s) = %s, %v", dump(u), dump(got), ok)
		}
	}
}

func TestP3PutValuesStandsForTheSame(t *testing.T) {
	m := maker{state: 23}
	for _, u := range someTerms(2000) {
		words := m.words(u)
		var some []impl.Value
		for _, v := range valuesOf(u, words) {
			if m.below(2) == 0 {
				some = append(some, v)
			}
		}
		got, ok := impl.PutValues(u, some)
		if !ok || !impl.IsSimple(got) || wordOf(got, words) != wordOf(u, words) {
			t.Fatalf("PutValues(%s, %v) = %s, %v", textOf(u), some, dump(got), ok)
		}
		for _, v := range variablesIn(got, nil) {
			if slices.ContainsFunc(some, func(x impl.Value) bool { return x.Name == v.Name }) {
				t.Fatalf("PutValues(%s, %v) = %s has %s", textOf(u), some, textOf(got), v.Name)
			}
		}
		if got, ok := impl.PutValues(u, valuesOf(u, words)); !ok || !alike(got, constant(u.W, wordOf(u, words))) {
			t.Fatalf("PutValues of all values of %s = %s, %v", textOf(u), dump(got), ok)
		}
	}
}

func TestP3TableOf(t *testing.T) {
	for _, c := range []struct {
		text string
		want []int
	}{
		{"3:5", []int{5}}, {"a:1", []int{0, 1}}, {"b:3", []int{0, 1, 2, 3, 4, 5, 6, 7}}, {"(neg a:2)", []int{0, 3, 2, 1}}, {"(less a:1 b:1)", []int{0, 1, 0, 0}}, {"(less b:1 a:1)", []int{0, 0, 1, 0}},
		{"(join a:1 b:2)", []int{0, 1, 2, 3, 4, 5, 6, 7}}, {"(join b:2 a:1)", []int{0, 2, 4, 6, 1, 3, 5, 7}}, {"(join b:1 a:2)", []int{0, 4, 1, 5, 2, 6, 3, 7}},
		{"(join c:1 (join b:1 a:1))", []int{0, 4, 2, 6, 1, 5, 3, 7}}, {"(and a:1 a:1)", []int{0, 1}}, {"(if 1:1 a:1 b:1)", []int{0, 0, 1, 1}}, {"(add (sub a:2 a:2) 2:1)", []int{1, 1, 1, 1}},
	} {
		if got := impl.TableOf(read(t, c.text)); !slices.Equal(got, c.want) {
			t.Errorf("TableOf(%s) = %v, want %v", c.text, got, c.want)
		}
	}
	for _, u := range badTerms() {
		if got := impl.TableOf(u); len(got) != 0 {
			t.Errorf("TableOf(%.200s) = %v", dump(u), got)
		}
	}
}

func TestP3TableOfBits(t *testing.T) {
	all := make([]int, 1024)
	for i := range all {
		all[i] = i
	}
	for _, text := range []string{"a:10", "(join a:3 b:7)", "(join a:9 b:1)", "(join a:2 (join b:2 (join c:2 (join d:2 e:2))))"} {
		if got := impl.TableOf(read(t, text)); !slices.Equal(got, all) {
			t.Errorf("TableOf(%s) has %d words", text, len(got))
		}
	}
	if got := impl.TableOf(read(t, "(join (xor a:8 a:8) a:8)")); len(got) != 256 {
		t.Errorf("TableOf of a variable of 8 bits at three places has %d words", len(got))
	}
	for _, text := range []string{"a:11", "a:16", "(join a:3 b:8)", "(join a:10 b:1)", "(eq (cut 0 1 a:10) b:1)", "(if c:1 a:10 a:10)", "(if 1:1 3:5 (cut 0 3 (join a:8 b:8)))"} {
		if got := impl.TableOf(read(t, text)); len(got) != 0 {
			t.Errorf("TableOf(%s) has %d words", text, len(got))
		}
	}
	u := variable(1, "x100")
	for i := 101; i < 180; i++ {
		u = node(impl.OpXor, 1, 0, variable(1, "x"+strconv.Itoa(i)), u)
	}
	if got := impl.TableOf(u); len(got) != 0 {
		t.Errorf("TableOf of a term of 80 bits has %d words", len(got))
	}
}

func TestP3TableOfIsEvalTermOfAllValues(t *testing.T) {
	for _, u := range someTerms(500) {
		vars := impl.VarsOf(u)
		bits := 0
		for _, v := range vars {
			bits += v.W
		}
		var want []int
		rows := 0
		if bits <= 10 {
			rows = power(bits)
		}
		for row := range rows {
			words := map[string]int{}
			rest := row
			for i := len(vars) - 1; i >= 0; i-- {
				words[vars[i].Name] = rest % power(vars[i].W)
				rest /= power(vars[i].W)
			}
			want = append(want, wordOf(u, words))
		}
		if got := impl.TableOf(u); !slices.Equal(got, want) {
			t.Fatalf("TableOf(%s) = %v, want %v", textOf(u), got, want)
		}
	}
}
