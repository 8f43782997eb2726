package tests

import (
	"slices"
	"testing"

	"loop.example/g03219/impl"
)

// shuffled returns a formula with its clauses in another order.
func (m *maker) shuffled(f impl.Formula) impl.Formula {
	l := slices.Clone(f.Clauses)
	for i := range l {
		j := m.below(i + 1)
		l[i], l[j] = l[j], l[i]
	}
	return impl.Formula{Vars: f.Vars, Clauses: l}
}

func TestP4Propagate(t *testing.T) {
	for _, c := range []struct {
		text string
		lits []int
		want string
	}{
		{"0", nil, ""}, {"3", nil, ""}, {"3", []int{3, -1}, "-1 3"}, {"3", []int{2, 2, 2}, "2"}, {"3|1", nil, "1"}, {"3|-2|1", nil, "1 -2"}, {"3|1|1", []int{1}, "1"}, {"3|1|1", []int{1, 1}, "1"},
		{"3|-1 2|-2 3", []int{1}, "1 2 3"}, {"3|-2 3|-1 2", []int{1}, "1 2 3"}, {"3|-1 2|-2 3", []int{-3}, "-1 -2 -3"}, {"3|-1 2|-2 3", []int{2}, "2 3"}, {"3|-1 2|-2 3", []int{-1}, "-1"}, {"3|-1 2|-2 3", nil, ""}, {"3|1|-1 2|-2 3", nil, "1 2 3"},
		{"3|1 2 3", []int{-1}, "-1"}, {"3|1 2 3", []int{-1, -2}, "-1 -2 3"}, {"3|1 2 3", []int{-3, -2}, "1 -2 -3"}, {"3|1 2 3", []int{-3, -1, -3}, "-1 2 -3"}, {"3|1 2 3", []int{-1, 2}, "-1 2"}, {"3|1 2 3|-3", []int{-2}, "1 -2 -3"},
		{"4|1 2 3 4|-4|-3", []int{-1}, "-1 2 -3 -4"}, {"4|1 2|-1 2|3 4", []int{-3}, "-3 4"}, {"2|1 2|-1 2|1 -2|-1 -2", nil, ""}, {"5|1 2|-2 3 4|-4 5", []int{-1, -3}, "-1 2 -3 4 5"},
		{"3|1 2|1 2|1 2", []int{-1}, "-1 2"}, {"2|1 -2|-1 2", []int{2}, "1 2"}, {"2|1 -2|-1 2", []int{-2, -1}, "-1 -2"}, {"2|1 2", []int{1, 2}, "1 2"},
	} {
		if got, ok := impl.Propagate(readFormula(t, c.text), c.lits); !ok || textOfInts(got) != c.want {
			t.Errorf("Propagate(%q, %v) = %v, %v, want %s", c.text, c.lits, got, ok, c.want)
		}
	}
	for _, c := range []struct {
		text string
		lits []int
	}{
		{"0|", nil}, {"3|", nil}, {"3|", []int{1}}, {"3|1 2|", []int{1}}, {"3", []int{1, -1}}, {"3", []int{-1, 1}}, {"3", []int{2, 1, 2, -2}}, {"3|1|-1", nil}, {"3|1|-1", []int{2}}, {"3|1", []int{-1}}, {"3|-1", []int{1}},
		{"3|1 2 3", []int{-1, -2, -3}}, {"3|1 2 3|-3", []int{-1, -2}}, {"3|-1 2|-2 3", []int{1, -3}}, {"3|-1 2|-2 3|-3", []int{1}}, {"3|-1 2|-1 -2", []int{1}}, {"2|1 2|-1 2|1 -2|-1 -2", []int{2}}, {"2|1 2|-1 2|1 -2|-1 -2", []int{-1}},
		{"4|1 2|-2 3|-2 4|-3 -4", []int{-1}}, {"3|1|2|-1 -2", nil}, {"3|1|-1 2|-2", nil},
	} {
		if got, ok := impl.Propagate(readFormula(t, c.text), c.lits); ok || len(got) != 0 {
			t.Errorf("Propagate(%q, %v) = %v, %v", c.text, c.lits, got, ok)
		}
	}
}

func TestP4PropagateFailsForInvalid(t *testing.T) {
	for _, f := range badFormulas() {
		for _, lits := range [][]int{nil, {1}, {1, -1}, {0}} {
			if got, ok := impl.Propagate(f, lits); ok || len(got) != 0 {
				t.Errorf("Propagate(%.200s, %v) = %v, %v", textOfFormula(f), lits, got, ok)
			}
		}
	}
	for _, text := range []string{"0", "1", "3|1 2", "400"} {
		f := readFormula(t, text)
		for _, lits := range badLiterals(f.Vars) {
			if got, ok := impl.Propagate(f, lits); ok || len(got) != 0 {
				t.Errorf("Propagate(%s, %v) = %v, %v", text, lits, got, ok)
			}
		}
	}
}

// TestP4PropagateAgreesWithModels checks also that the order of clauses and literals makes no difference.
func TestP4PropagateAgreesWithModels(t *testing.T) {
	m := maker{state: 29}
	done := 0
	for _, f := range someFormulas(2500) {
		for range 3 {
			lits := m.literals(f.Vars)
			got, ok := impl.Propagate(f, lits)
			want, fine := slowPropagate(f, lits)
			if ok != fine || !slices.Equal(got, want) {
				t.Errorf("Propagate(%s, %v) = %v, %v, want %v, %v", textOfFormula(f), lits, got, ok, want, fine)
			}
			models := modelsWith(f, lits)
			if !ok && len(models) > 0 {
				t.Errorf("Propagate(%s, %v) fails, but there are models", textOfFormula(f), lits)
			}
			for _, model := range models {
				if !allTrue(got, model) {
					t.Errorf("Propagate(%s, %v) = %v, but there is the model %s", textOfFormula(f), lits, got, textOfModel(model))
				}
			}
			mixed := slices.Clone(lits)
			slices.Reverse(mixed)
			if again, fine := impl.Propagate(m.shuffled(f), append(mixed, lits...)); fine != ok || !slices.Equal(again, got) {
				t.Errorf("Propagate(%s, %v) = %v, %v in another order", textOfFormula(f), lits, again, fine)
			}
			if len(got) > len(lits) {
				done++
			}
		}
	}
	if done < 500 {
		t.Errorf("only %d cases add literals", done)
	}
}

func TestP4PropagateOfLongChains(t *testing.T) {
	f := impl.Formula{Vars: 400}
	for v := 1; v < 400; v++ {
		f.Clauses = append(f.Clauses, []int{-v, v + 1})
	}
	m := maker{state: 31}
	backward := impl.Formula{Vars: 400, Clauses: slices.Clone(f.Clauses)}
	slices.Reverse(backward.Clauses)
	for _, g := range []impl.Formula{f, backward, m.shuffled(f)} {
		up, ok := impl.Propagate(g, []int{1})
		down, fine := impl.Propagate(g, []int{-400})
		if !ok || !fine || len(up) != 400 || len(down) != 400 || up[0] != 1 || up[399] != 400 || down[0] != -1 || down[399] != -400 {
			t.Errorf("Propagate = %v, %v and %v, %v", up, ok, down, fine)
		}
		if got, ok := impl.Propagate(g, []int{1, -400}); ok || len(got) != 0 {
			t.Errorf("Propagate of both ends = %v, %v", got, ok)
		}
		if got, ok := impl.Propagate(g, []int{200, -100}); !ok || len(got) != 301 || got[99] != -100 || got[100] != 200 {
			t.Errorf("Propagate of the middle = %v, %v", got, ok)
		}
	}
	wide := impl.Formula{Vars: 400, Clauses: [][]int{{}}}
	for v := 1; v <= 400; v++ {
		wide.Clauses[0] = append(wide.Clauses[0], v)
	}
	for _, v := range []int{1, 2, 200, 399, 400} {
		lits := opposite(wide.Clauses[0])
		lits = slices.Delete(lits, v-1, v)
		want := slices.Insert(slices.Clone(lits), v-1, v)
		if got, ok := impl.Propagate(wide, lits); !ok || !slices.Equal(got, want) {
			t.Errorf("Propagate of all but one literal = %v, %v", got, ok)
		}
		if got, ok := impl.Propagate(wide, append(lits, -v)); ok || len(got) != 0 {
			t.Errorf("Propagate of all literals = %v, %v", got, ok)
		}
		if got, ok := impl.Propagate(wide, lits[:398]); !ok || !slices.Equal(got, lits[:398]) {
			t.Errorf("Propagate of all but two literals = %v, %v", got, ok)
		}
	}
}

func opposite(lits []int) []int {
	var l []int
	for _, lit := range lits {
		l = append(l, -lit)
	}
	return l
}

func TestP4Search(t *testing.T) {
	for _, c := range []struct {
		text   string
		lits   []int
		limit  int
		code   int
		model  string
		splits int
	}{
		{"0", nil, 0, impl.SatYes, "", 0}, {"0|", nil, 0, impl.SatNo, "", 0}, {"3|", nil, 10, impl.SatNo, "", 0}, {"1", nil, 1, impl.SatYes, "0", 1}, {"1", nil, 0, impl.SatOpen, "", 0}, {"1|1", nil, 0, impl.SatYes, "1", 0}, {"1|-1", nil, 0, impl.SatYes, "0", 0}, {"1|1|-1", nil, 0, impl.SatNo, "", 0},
		{"3", nil, 3, impl.SatYes, "000", 3}, {"3", nil, 2, impl.SatOpen, "", 2}, {"3", nil, 3000, impl.SatYes, "000", 3}, {"3|3", nil, 3, impl.SatYes, "001", 2}, {"3", []int{2}, 3, impl.SatYes, "010", 2}, {"3", []int{3, 1, -2}, 0, impl.SatYes, "101", 0}, {"3", []int{1, 1, 1}, 9, impl.SatYes, "100", 2},
		{"3", []int{1, -1}, 0, impl.SatNo, "", 0}, {"3", []int{2, -1, -2}, 9, impl.SatNo, "", 0}, {"2|1 2|-1 2|1 -2|-1 -2", nil, 1, impl.SatNo, "", 1}, {"2|1 2|-1 2|1 -2|-1 -2", nil, 0, impl.SatOpen, "", 0}, {"2|1 2|-1 2|1 -2|-1 -2", []int{1}, 0, impl.SatNo, "", 0},
		// The model with the first variable false comes first, the other one only if there is none.
		{"2|1 2|-1 -2", nil, 5, impl.SatYes, "01", 1}, {"3|1 2|1 -2 3|1 -2 -3", nil, 5, impl.SatYes, "100", 3}, {"3|1 2|1 -2 3|1 -2 -3", nil, 2, impl.SatOpen, "", 2}, {"3|2 3|-2 3", nil, 5, impl.SatYes, "001", 2}, {"2|-1 2|-2|1 2", nil, 5, impl.SatNo, "", 0}, {"2|-1 2|-2", []int{1}, 5, impl.SatNo, "", 0},
		{"3|1 2 3", []int{-3}, 5, impl.SatYes, "010", 1}, {"3|1 2 3", nil, 5, impl.SatYes, "001", 2}, {"3|1 2 3|-3", nil, 5, impl.SatYes, "010", 1}, {"3|1 2|-1 2|1 -2|-1 -2", []int{3}, 1, impl.SatNo, "", 1},
	} {
		code, model, splits := impl.Search(readFormula(t, c.text), c.lits, c.limit)
		if code != c.code || textOfModel(model) != c.model || splits != c.splits {
			t.Errorf("Search(%q, %v, %d) = %d, %s, %d", c.text, c.lits, c.limit, code, textOfModel(model), splits)
		}
	}
}

func TestP4SearchFailsForInvalid(t *testing.T) {
	check := func(f impl.Formula, lits []int, limit int) {
		if code, model, splits := impl.Search(f, lits, limit); code != 0 || len(model) != 0 || splits != 0 {
			t.Errorf("Search(%.200s, %v, %d) = %d, %v, %d", textOfFormula(f), lits, limit, code, model, splits)
		}
	}
	for _, f := range badFormulas() {
		check(f, nil, 10)
		check(f, []int{1}, 10)
	}
	for _, text := range []string{"0", "1", "3|1 2", "3|", "400", "1|1|-1"} {
		f := readFormula(t, text)
		for _, lits := range badLiterals(f.Vars) {
			check(f, lits, 10)
		}
		for _, limit := range badLimits {
			check(f, nil, limit)
		}
	}
}

// TestP4SearchAgreesWithModels compares also with just as many splits as are needed, and with less.
func TestP4SearchAgreesWithModels(t *testing.T) {
	m := maker{state: 37}
	found := map[int]int{}
	for _, f := range append(someFormulas(2500), modelless(200)...) {
		lits := m.literals(f.Vars)
		if m.below(2) == 0 {
			lits = nil
		}
		slow := slowSearch{f: f, limit: 3000}
		want, _, _ := slow.with(lits)
		found[want]++
		code, model, splits := impl.Search(f, lits, 3000)
		models := modelsWith(f, lits)
		if len(models) > 0 {
			if code != impl.SatYes || !slices.Equal(model, models[0]) {
				t.Errorf("Search(%s, %v) = %d, %s, want %s", textOfFormula(f), lits, code, textOfModel(model), textOfModel(models[0]))
			}
		} else if code != impl.SatNo || len(model) != 0 {
			t.Errorf("Search(%s, %v) = %d, %s, but there is no model", textOfFormula(f), lits, code, textOfModel(model))
		}
		if code != want || splits != slow.splits {
			t.Errorf("Search(%s, %v) = %d with %d splits, want %d with %d", textOfFormula(f), lits, code, splits, want, slow.splits)
		}
		if again, same, n := impl.Search(m.shuffled(f), lits, splits); again != code || !slices.Equal(same, model) || n != splits {
			t.Errorf("Search(%s, %v, %d) = %d, %s, %d in another order", textOfFormula(f), lits, splits, again, textOfModel(same), n)
		}
		for limit := range splits {
			if code, model, n := impl.Search(f, lits, limit); code != impl.SatOpen || len(model) != 0 || n != limit {
				t.Errorf("Search(%s, %v, %d) = %d, %s, %d", textOfFormula(f), lits, limit, code, textOfModel(model), n)
			}
		}
	}
	if found[impl.SatYes] < 500 || found[impl.SatNo] < 500 {
		t.Errorf("the answers are %v", found)
	}
}

// TestP4SearchOfMany has formulas that are larger than those whose models can be listed.
func TestP4SearchOfMany(t *testing.T) {
	m := maker{state: 41}
	for i := range 60 {
		vars := 20 + m.below(20)
		f := m.formula(vars, 3*vars, vars/3)
		for _, limit := range []int{0, 5, 40, 3000} {
			slow := slowSearch{f: f, limit: limit}
			want, first, _ := slow.with(nil)
			code, model, splits := impl.Search(f, nil, limit)
			if code != want || !slices.Equal(model, first) || splits != slow.splits {
				t.Errorf("formula %d: Search with %d = %d, %s, %d, want %d, %s, %d", i, limit, code, textOfModel(model), splits, want, textOfModel(first), slow.splits)
			}
		}
	}
}

func TestP4SearchOfMaxBools(t *testing.T) {
	free := impl.Formula{Vars: 400}
	if code, model, splits := impl.Search(free, nil, 400); code != impl.SatYes || len(model) != 400 || slices.Contains(model, true) || splits != 400 {
		t.Errorf("Search without clauses = %d, %s, %d", code, textOfModel(model), splits)
	}
	if code, model, splits := impl.Search(free, nil, 399); code != impl.SatOpen || len(model) != 0 || splits != 399 {
		t.Errorf("Search with 399 splits = %d, %s, %d", code, textOfModel(model), splits)
	}
	if code, model, splits := impl.Search(pigeons(8), nil, 3000); code != impl.SatOpen || len(model) != 0 || splits != 3000 {
		t.Errorf("Search of 9 pigeons = %d, %s, %d", code, textOfModel(model), splits)
	}
	m := maker{state: 43}
	for _, rare := range []int{2, 40, 100, 130, 200} {
		full := m.formula(400, 1600, rare)
		code, model, splits := impl.Search(full, nil, 3000)
		if code == impl.SatYes && !impl.EvalFormula(full, model) || code != impl.SatYes && len(model) != 0 || splits > 3000 || code == impl.SatOpen && splits != 3000 {
			t.Errorf("Search of 1600 clauses = %d, %s, %d", code, textOfModel(model), splits)
		}
	}
}

func TestP4CoreOf(t *testing.T) {
	for _, c := range []struct {
		text  string
		limit int
		want  string
	}{
		{"0|", 0, "0"}, {"0||", 0, "1"}, {"2|1||2|", 2, "3"}, {"2||1", 1, "0"}, {"1|1|-1", 0, "0 1"}, {"1|1|-1|1", 0, "1 2"}, {"1|1|1|-1|-1", 0, "1 3"}, {"2|1|-1|2|-2", 1, "2 3"}, {"2|2|1|-1", 1, "1 2"}, {"2|1 2|1|-1", 1, "1 2"}, {"3|1|-1|2", 1, "0 1"},
		{"2|1 2|-1 2|1 -2|-1 -2", 1, "0 1 2 3"}, {"2|1 2|-1 2|1 2|1 -2|-1 -2", 1, "1 2 3 4"}, {"3|3|1 2|-1 2|-3|1 -2|-1 -2", 2, "1 2 4 5"}, {"3|1 2|3|-1 2|1 -2|-1 -2|-3", 2, "1 5"}, {"3|3|1 2|-1 2|1 -2|-3", 2, "0 4"}, {"3|1|-1 2|-2 3|-3|2 3", 3, "2 3 4"}, {"3|1|-1 2|-2 3|-3", 3, "0 1 2 3"},
	} {
		if got, ok := impl.CoreOf(readFormula(t, c.text), c.limit); !ok || textOfInts(got) != c.want {
			t.Errorf("CoreOf(%q, %d) = %v, %v, want %s", c.text, c.limit, got, ok, c.want)
		}
	}
	for _, c := range []struct {
		text  string
		limit int
	}{
		{"0", 10}, {"3", 10}, {"1|1", 10}, {"2|1 2|-1 -2", 10}, {"2|1 2|-1 2|1 -2|-1 -2", 0},
		// The search of all clauses needs no split, but one that leaves a clause out does.
		{"3|1|-1|2", 0}, {"2|1|-1", 0}, {"2|1||2|", 1}, {"2|1||2|", 0}, {"2||1", 0}, {"2|1|-1|2|-2", 0}, {"2|2|1|-1", 0}, {"3|3|1 2|-1 2|-3|1 -2|-1 -2", 1},
	} {
		if got, ok := impl.CoreOf(readFormula(t, c.text), c.limit); ok || len(got) != 0 {
			t.Errorf("CoreOf(%q, %d) = %v, %v", c.text, c.limit, got, ok)
		}
	}
	for _, limit := range badLimits {
		if got, ok := impl.CoreOf(readFormula(t, "1|1|-1"), limit); ok || len(got) != 0 {
			t.Errorf("CoreOf with %d = %v, %v", limit, got, ok)
		}
	}
	for _, f := range badFormulas() {
		if got, ok := impl.CoreOf(f, 10); ok || len(got) != 0 {
			t.Errorf("CoreOf(%.200s) = %v, %v", textOfFormula(f), got, ok)
		}
	}
}

func TestP4CoresHaveNoModels(t *testing.T) {
	for _, f := range append(modelless(400), someFormulas(300)...) {
		got, ok := impl.CoreOf(f, 3000)
		if ok != (len(modelsWith(f, nil)) == 0) || !ok && len(got) != 0 || !slices.IsSorted(got) {
			t.Errorf("CoreOf(%s) = %v, %v", textOfFormula(f), got, ok)
		}
		if ok {
			core := impl.Formula{Vars: f.Vars}
			for _, i := range got {
				core.Clauses = append(core.Clauses, f.Clauses[i])
			}
			if len(modelsWith(core, nil)) > 0 {
				t.Errorf("CoreOf(%s) = %v, which have a model", textOfFormula(f), got)
			}
			for i := range core.Clauses {
				if len(modelsWith(without(core, i), nil)) == 0 {
					t.Errorf("CoreOf(%s) = %v, but one is not needed", textOfFormula(f), got)
				}
			}
		}
		for _, limit := range []int{0, 1, 2, 3, 4, 6, 3000} {
			got, ok := impl.CoreOf(f, limit)
			if want, fine := slowCore(f, limit); ok != fine || !slices.Equal(got, want) {
				t.Errorf("CoreOf(%s, %d) = %v, %v, want %v, %v", textOfFormula(f), limit, got, ok, want, fine)
			}
		}
	}
	if got, ok := impl.CoreOf(pigeons(4), 3000); !ok || len(got) != len(pigeons(4).Clauses) {
		t.Errorf("CoreOf of 5 pigeons = %v, %v", got, ok)
	}
}

func TestP4Resolve(t *testing.T) {
	for _, c := range []struct {
		a, b []int
		v    int
		want string
	}{
		{[]int{1}, []int{-1}, 1, ""}, {[]int{1, 2}, []int{-1, 3}, 1, "2 3"}, {[]int{2, 3}, []int{1, -3}, 3, "1 2"}, {[]int{1, 2}, []int{-1, 2}, 1, "2"}, {[]int{1, -2, 3}, []int{-1, -2, 4}, 1, "-2 3 4"}, {[]int{1, 400}, []int{2, -400}, 400, "1 2"},
		{[]int{1, 5, 9}, []int{2, -5, 8}, 5, "1 2 8 9"}, {[]int{-1, 2}, []int{-1, -2}, 2, "-1"}, {[]int{1, 2}, []int{-1}, 1, "2"}, {[]int{1}, []int{-1, -7}, 1, "-7"}, {[]int{400}, []int{-400}, 400, ""},
	} {
		if got, ok := impl.Resolve(c.a, c.b, c.v); !ok || textOfInts(got) != c.want {
			t.Errorf("Resolve(%v, %v, %d) = %v, %v, want %s", c.a, c.b, c.v, got, ok, c.want)
		}
	}
	type clash struct {
		a, b []int
		v    int
	}
	l := []clash{
		{[]int{1, 2}, []int{-1, -2}, 1}, {[]int{1, 2}, []int{-1, -2}, 2}, {[]int{1, 2}, []int{-1, 3}, 3}, {[]int{1, 2}, []int{-1, 3}, 2}, {[]int{1, 2}, []int{-1, 3}, 4}, {[]int{1, 2}, []int{1, 3}, 1}, {[]int{-1, 2}, []int{-1, 3}, 1}, {[]int{-1, 2}, []int{1, 3}, 1}, {[]int{-1, 2}, []int{1, 3}, -1},
		{nil, nil, 1}, {[]int{1}, nil, 1}, {nil, []int{-1}, 1}, {[]int{1}, []int{-1}, 0}, {[]int{1}, []int{-1}, -1}, {[]int{-1}, []int{1}, 1}, {[]int{1}, []int{-1}, 2}, {[]int{1}, []int{-1}, 401}, {[]int{2}, []int{-2}, 1}, {[]int{401}, []int{-401}, 401},
	}
	for _, v := range oddInts {
		if v != 1 {
			l = append(l, clash{[]int{1}, []int{-1}, v}, clash{[]int{-v}, []int{1, -v}, v})
		}
	}
	for _, bad := range badClauses(400) {
		l = append(l, clash{bad, []int{-1}, 1}, clash{[]int{1}, bad, 1}, clash{[]int{2}, bad, 2}, clash{bad, []int{-2}, 2})
	}
	for _, c := range l {
		if got, ok := impl.Resolve(c.a, c.b, c.v); ok || len(got) != 0 {
			t.Errorf("Resolve(%v, %v, %d) = %v, %v", c.a, c.b, c.v, got, ok)
		}
	}
}

// TestP4ResolvedFollows checks that what two clauses are resolved to is true where both are, and what it consists of.
func TestP4ResolvedFollows(t *testing.T) {
	m := maker{state: 47}
	done := 0
	for range 20000 {
		a, b, v := m.clause(6, 2), m.clause(6, 2), 1+m.below(6)
		var rest []int
		rest = append(rest, slices.DeleteFunc(slices.Clone(a), func(lit int) bool { return lit == v })...)
		rest = append(rest, slices.DeleteFunc(slices.Clone(b), func(lit int) bool { return lit == -v })...)
		want, fine := impl.MakeClause(rest)
		if !slices.Contains(a, v) || !slices.Contains(b, -v) {
			want, fine = nil, false
		}
		got, ok := impl.Resolve(a, b, v)
		if ok != fine || !slices.Equal(got, want) {
			t.Errorf("Resolve(%v, %v, %d) = %v, %v, want %v, %v", a, b, v, got, ok, want, fine)
		}
		if !ok {
			continue
		}
		done++
		for _, model := range assignments(6) {
			if someTrue(a, model) && someTrue(b, model) && !someTrue(got, model) {
				t.Errorf("Resolve(%v, %v, %d) = %v, which does not follow", a, b, v, got)
			}
		}
	}
	if done < 200 {
		t.Errorf("only %d clauses are resolved", done)
	}
}

func TestP4Implied(t *testing.T) {
	for _, c := range []struct {
		text   string
		clause []int
		limit  int
		want   int
	}{
		{"0", nil, 0, impl.SatNo}, {"0|", nil, 0, impl.SatYes}, {"2", nil, 2, impl.SatNo}, {"2", nil, 1, impl.SatOpen}, {"2|1|-1", nil, 0, impl.SatYes}, {"2|1|-1", []int{1}, 0, impl.SatYes}, {"2|1|-1", []int{1, 2}, 0, impl.SatYes}, {"2|", []int{2}, 0, impl.SatYes},
		{"3|-1 2|-2 3", []int{-1, 3}, 0, impl.SatYes}, {"3|-1 2|-2 3", []int{1, 3}, 3, impl.SatNo}, {"3|-1 2|-2 3", []int{-1, 2}, 0, impl.SatYes}, {"3|-1 2|-2 3", []int{-1, 2, 3}, 0, impl.SatYes}, {"3|-1 2|-2 3", []int{3}, 0, impl.SatNo}, {"3|-1 2|-2 3", []int{2, -3}, 0, impl.SatNo}, {"3|-1 2|-2 3", []int{1, 2, 3}, 0, impl.SatNo},
		{"2|1 2", []int{1, 2}, 0, impl.SatYes}, {"2|1 2", []int{1}, 0, impl.SatNo}, {"2|1 2|-1 2|1 -2|-1 -2", nil, 1, impl.SatYes}, {"2|1 2|-1 2|1 -2|-1 -2", nil, 0, impl.SatOpen}, {"3|1 2|-1 2|1 -2|-1 -2", []int{3}, 0, impl.SatOpen}, {"3|1 2|-1 2|1 -2|-1 -2", []int{3}, 1, impl.SatYes},
		{"3", []int{1}, 2, impl.SatNo}, {"3", []int{1}, 1, impl.SatOpen}, {"3", []int{1, -2, 3}, 0, impl.SatNo}, {"2|1 2|-1 2", []int{2}, 0, impl.SatYes}, {"2|1 2|-1 2", []int{-2}, 3000, impl.SatNo}, {"2|1|2", []int{1, 2}, 0, impl.SatYes}, {"1|-1", []int{-1}, 0, impl.SatYes}, {"1|-1", []int{1}, 0, impl.SatNo},
	} {
		if got := impl.Implied(readFormula(t, c.text), c.clause, c.limit); got != c.want {
			t.Errorf("Implied(%q, %v, %d) = %d, want %d", c.text, c.clause, c.limit, got, c.want)
		}
	}
	for _, f := range badFormulas() {
		for _, clause := range [][]int{nil, {1}, {-1}, {1, 2}, {400}, {401}, {-3}} {
			if got := impl.Implied(f, clause, 10); got != 0 {
				t.Errorf("Implied(%.200s, %v) = %d", textOfFormula(f), clause, got)
			}
		}
	}
	for _, text := range []string{"3", "3|1|-1", "3|", "400", "2|1 2"} {
		f := readFormula(t, text)
		for _, clause := range badClauses(f.Vars) {
			if got := impl.Implied(f, clause, 10); got != 0 {
				t.Errorf("Implied(%s, %v) = %d", text, clause, got)
			}
		}
		for _, limit := range badLimits {
			if got := impl.Implied(f, []int{1}, limit); got != 0 {
				t.Errorf("Implied(%s, [1], %d) = %d", text, limit, got)
			}
		}
	}
}

func TestP4ImpliedChangesNoModel(t *testing.T) {
	m := maker{state: 53}
	found := map[int]int{}
	for _, f := range someFormulas(2500) {
		clause := m.clause(f.Vars, 2)
		before := len(modelsWith(f, nil))
		after := len(modelsWith(impl.Formula{Vars: f.Vars, Clauses: append(slices.Clone(f.Clauses), clause)}, nil))
		want := impl.SatYes
		if before != after {
			want = impl.SatNo
		}
		found[want]++
		if got := impl.Implied(f, clause, 3000); got != want {
			t.Errorf("Implied(%s, %v) = %d, want %d", textOfFormula(f), clause, got, want)
		}
		_, _, splits := impl.Search(f, opposite(clause), 3000)
		if got := impl.Implied(f, clause, splits); got != want {
			t.Errorf("Implied(%s, %v, %d) = %d, want %d", textOfFormula(f), clause, splits, got, want)
		}
		if splits > 0 && impl.Implied(f, clause, splits-1) != impl.SatOpen {
			t.Errorf("Implied(%s, %v, %d) is not open", textOfFormula(f), clause, splits-1)
		}
	}
	if found[impl.SatYes] < 300 || found[impl.SatNo] < 300 {
		t.Errorf("the answers are %v", found)
	}
}
