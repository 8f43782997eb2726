package tests

import (
	"math"
	"slices"
	"strings"
	"testing"

	"loop.example/g03219/impl"
)

// withConds returns a path with some conditions, and everything else zero.
func withConds(t *testing.T, p impl.Program, conds string) impl.Path {
	t.Helper()
	s := slowStartPath(p)
	s.Cond = readTerms(t, conds)
	return s
}

func TestP7PathTerm(t *testing.T) {
	p := readProgram(t, "3 2 1|in r0|halt")
	for _, c := range []struct{ conds, want string }{
		{"", "1:1"}, {"c:1", "c:1"}, {"1:1", "1:1"}, {"1:0", "1:0"}, {"c:1, 1:0, b:1", "1:0"}, {"c:1, 1:1, b:1", "(and b:1 c:1)"}, {"b:1, c:1", "(and b:1 c:1)"}, {"c:1, c:1", "c:1"}, {"(less a:3 3:5), (not (less a:3 3:5))", "(and (not (less a:3 3:5)) (less a:3 3:5))"},
		{"c:1, b:1, a:1", "(and (and b:1 c:1) a:1)"}, {"(eq 3:1 (add 3:2 3:3))", "(eq 3:1 (add 3:2 3:3))"},
	} {
		if got, ok := impl.PathTerm(withConds(t, p, c.conds)); !ok || textOf(got) != c.want {
			t.Errorf("PathTerm of %s = %s, %v, want %s", c.conds, textOf(got), ok, c.want)
		}
	}
	// These need not be valid but for their conditions.
	for _, s := range []impl.Path{{}, {Pc: -5, Regs: []impl.Term{{}}, Mem: badLeaves(), Code: 77, Steps: -1, Turns: []int{5}}} {
		if got, ok := impl.PathTerm(s); !ok || textOf(got) != "1:1" {
			t.Errorf("PathTerm of %.200s = %s, %v", textOfPath(s), textOf(got), ok)
		}
		s.Cond = repeatedTerm(variable(1, "c"), 100)
		if got, ok := impl.PathTerm(s); !ok || textOf(got) != "c:1" {
			t.Errorf("PathTerm of 100 conditions = %s, %v", textOf(got), ok)
		}
	}
	fails := [][]impl.Term{
		{sized(1, 239)}, {variable(1, "c"), sized(1, 239)}, {sized(1, 100), sized(1, 139), variable(1, "c")}, {variable(1, "a"), node(impl.OpCut, 1, 0, variable(2, "a"))}, {variable(2, "c")}, {variable(1, "c"), constant(3, 1)}, {constant(1, 0), variable(4, "c")},
	}
	for _, u := range badTerms() {
		fails = append(fails, []impl.Term{u}, []impl.Term{constant(1, 0), u})
	}
	for _, conds := range fails {
		if got, ok := impl.PathTerm(impl.Path{Cond: conds}); ok || !isZero(got) {
			t.Errorf("PathTerm of %.300s = %s, %v", dump(node(0, 0, 0, conds...)), textOf(got), ok)
		}
	}
	if got, ok := impl.PathTerm(impl.Path{Cond: []impl.Term{sized(1, 238)}}); !ok || !alike(got, sized(1, 238)) {
		t.Errorf("PathTerm of 238 nodes = %s, %v", textOf(got), ok)
	}
}

func TestP7HoldsPath(t *testing.T) {
	p := readProgram(t, "3 2 2|in r0|halt")
	for _, c := range []struct {
		conds string
		in    []int
		want  bool
	}{
		{"", []int{0, 0}, true}, {"1:1", []int{0, 0}, true}, {"1:0", []int{0, 0}, false}, {"1:1, 1:0", []int{0, 0}, false}, {"1:0, 1:1", []int{0, 0}, false},
		{"(eq i0:3 3:5)", []int{5, 0}, true}, {"(eq i0:3 3:5)", []int{0, 5}, false}, {"(eq i1:3 3:5)", []int{0, 5}, true}, {"(less i0:3 i1:3)", []int{6, 7}, true}, {"(less i0:3 i1:3)", []int{7, 6}, false}, {"(less i0:3 i1:3)", []int{6, 6}, false},
		{"(less i0:3 i1:3), (eq i0:3 3:2)", []int{2, 7}, true}, {"(less i0:3 i1:3), (eq i0:3 3:2)", []int{1, 7}, false}, {"(less i0:3 i1:3), (eq i0:3 3:2)", []int{2, 1}, false},
		// Variables other than the inputs, also where they do not count.
		{"c:1", []int{1, 1}, false}, {"(eq x:3 x:3)", []int{1, 1}, false}, {"(eq i2:3 i2:3)", []int{1, 1}, false}, {"(eq r0:3 r0:3)", []int{1, 1}, false}, {"(if 1:1 1:1 (eq 3:0 i2:3))", []int{1, 1}, false}, {"(eq i:3 i:3)", []int{1, 1}, false}, {"(eq i00:3 i00:3)", []int{1, 1}, false}, {"(eq i0:3 i0:3), (eq j:3 j:3)", []int{1, 1}, false},
		// Inputs of another width.
		{"i0:1", []int{1, 1}, false}, {"(eq i0:4 i0:4)", []int{1, 1}, false}, {"(eq i0:2 i0:2)", []int{1, 1}, false}, {"(eq i0:3 i0:3), (eq i1:4 i1:4)", []int{1, 1}, false},
	} {
		if got := impl.HoldsPath(p, withConds(t, p, c.conds), c.in); got != c.want {
			t.Errorf("HoldsPath of %s for %v = %v", c.conds, c.in, got)
		}
	}
	// Only the conditions count.
	s := readPath(t, "2|a:3, i0:4, 3:0, i2:3|3:0, b:3|1|2|c:3|9|77|(eq i0:3 3:5)|1 0")
	s.Regs[1] = node(impl.OpCut, 3, 0, s.Regs[1])
	if !impl.HoldsPath(p, s, []int{5, 0}) || impl.HoldsPath(p, s, []int{4, 0}) {
		t.Error("HoldsPath of a path with other variables in its registers")
	}
	if state, ok := impl.EvalPath(p, s, []int{5, 0}); ok || !noState(state) {
		t.Errorf("EvalPath of a path with other variables = %s, %v", textOfState(state), ok)
	}
}

func TestP7EvalPath(t *testing.T) {
	p := readProgram(t, "3 2 2|in r0|halt")
	for _, c := range []struct {
		path string
		in   []int
		want string
	}{
		{"0|3:0, 3:0, 3:0, 3:0|3:0, 3:0||0||0|0||", []int{1, 2}, "0|0 0 0 0|0 0||0||0|0"}, {"2|i0:3, i1:3, 3:6, (add i0:3 i1:3)|(not i0:3), (if (eq 3:1 i0:3) 3:7 i1:3)|2 0|1|i1:3, 3:4|8|400|(eq 3:1 i0:3)|1", []int{1, 2}, "2|1 2 6 3|6 7|2 0|1|2 4|8|400"},
		{"1|(div i0:3 i1:3), (rem i0:3 i1:3), 3:0, 3:0|3:0, 3:0||2||9|5||", []int{5, 0}, "1|7 5 0 0|0 0||2||9|5"},
		{"0|3:0, 3:0, 3:0, 3:0|3:0, 3:0||0||0|0|(eq 3:1 i0:3)|", []int{2, 1}, ""}, {"0|3:0, 3:0, 3:0, 3:0|3:0, 3:0||0||0|0|c:1|", []int{2, 1}, ""}, {"0|3:0, 3:0, 3:0, 3:0|3:0, 3:0||0||0|0|i0:1|", []int{1, 1}, ""},
		{"0|3:0, a:3, 3:0, 3:0|3:0, 3:0||0||0|0||", []int{2, 1}, ""}, {"0|3:0, 3:0, 3:0, (if 1:1 3:0 i2:3)|3:0, 3:0||0||0|0||", []int{2, 1}, ""}, {"0|3:0, 3:0, 3:0, 3:0|3:0, m1:3||0||0|0||", []int{2, 1}, ""}, {"0|3:0, 3:0, 3:0, 3:0|3:0, 3:0||0|3:1, i2:3|0|0||", []int{2, 1}, ""}, {"0|3:0, (grow 3 i0:2), 3:0, 3:0|3:0, 3:0||0||0|0||", []int{2, 1}, ""}, {"0|(cut 0 3 i0:4), 3:0, 3:0, 3:0|3:0, 3:0||0||0|0||", []int{2, 1}, ""},
	} {
		got, ok := impl.EvalPath(p, readPath(t, c.path), c.in)
		if ok != (c.want != "") || ok && textOfState(got) != c.want || !ok && !noState(got) {
			t.Errorf("EvalPath of %s for %v = %s, %v, want %s", c.path, c.in, textOfState(got), ok, c.want)
		}
	}
}

func TestP7HoldsAndEvalOfAny(t *testing.T) {
	m := maker{state: 233}
	found := map[string]int{}
	for _, p := range forkingPrograms(300) {
		for range 8 {
			s := m.path(p)
			for _, in := range allWords(p) {
				holds := slowHolds(p, s, in)
				if got := impl.HoldsPath(p, s, in); got != holds {
					t.Errorf("HoldsPath of %s for %v = %v", textOfPath(s), in, got)
				}
				var want impl.State
				fine := false
				if holds {
					want, fine = slowEval(p, s, in)
				}
				if got, ok := impl.EvalPath(p, s, in); ok != fine || textOfState(got) != textOfState(want) {
					t.Errorf("EvalPath of %s for %v = %s, %v, want %s", textOfPath(s), in, textOfState(got), ok, textOfState(want))
				}
				found[string("ny"[truth(holds)])+string("ny"[truth(fine)])]++
			}
		}
	}
	if found["yy"] < 5000 || found["yn"] < 1000 || found["nn"] < 1000 {
		t.Errorf("found %v", found)
	}
}

func TestP7HoldsAndEvalInvalid(t *testing.T) {
	mustNotHold := func(p impl.Program, s impl.Path, in []int) {
		t.Helper()
		if impl.HoldsPath(p, s, in) {
			t.Errorf("HoldsPath(%.300s, %.300s, %.100s) = true", dumpProgram(p), textOfPath(s), textOfInts(in))
		}
		if got, ok := impl.EvalPath(p, s, in); ok || !noState(got) {
			t.Errorf("EvalPath(%.300s, %.300s, %.100s) = %s, %v", dumpProgram(p), textOfPath(s), textOfInts(in), textOfState(got), ok)
		}
	}
	p := readProgram(t, "3 2 1|in r0|halt")
	if !impl.HoldsPath(p, slowStartPath(p), []int{7}) {
		t.Error("HoldsPath of the first path = false")
	}
	for _, in := range badLists(3, 1) {
		mustNotHold(p, slowStartPath(p), in)
	}
	for _, s := range badPaths(p) {
		mustNotHold(p, s, []int{7})
	}
	for _, bad := range badPrograms() {
		for n := range 3 {
			mustNotHold(bad, slowStartPath(p), make([]int, n))
		}
	}
}

func TestP7PathInputs(t *testing.T) {
	p := readProgram(t, "3 2 2|in r0|halt")
	for _, c := range []struct {
		conds string
		limit int
		code  int
		want  string
	}{
		{"", 0, impl.SatYes, "0 0"}, {"1:0", 0, impl.SatNo, ""}, {"(eq 3:5 i0:3)", 0, impl.SatYes, "5 0"}, {"(eq 3:5 i1:3)", 50, impl.SatYes, "0 5"}, {"(less i1:3 i0:3)", 50, impl.SatYes, "1 0"}, {"(less 3:3 i0:3), (less i0:3 i1:3)", 50, impl.SatYes, "4 5"},
		{"(eq 3:5 i0:3), (eq 3:4 i0:3)", 50, impl.SatNo, ""}, {"(less i0:3 i1:3), (less i1:3 i0:3)", 50, impl.SatNo, ""}, {"(less i0:3 i1:3), (less i1:3 i0:3)", 0, impl.SatOpen, ""}, {"(less i0:3 i1:3)", 0, impl.SatOpen, ""}, {"(eq 3:6 (mul i0:3 i0:3))", 3000, impl.SatNo, ""},
		// Other variables, and inputs of another width, have values, which are none of inputs.
		{"c:1, (eq 3:5 i1:3)", 50, impl.SatYes, "0 5"}, {"i0:1, (eq 3:5 i1:3)", 50, impl.SatYes, "0 5"}, {"(eq 4:9 i1:4)", 50, impl.SatYes, "0 0"}, {"(eq 3:5 i2:3)", 50, impl.SatYes, "0 0"}, {"(eq 3:5 i:3), (eq 3:6 i00:3)", 50, impl.SatYes, "0 0"},
		// PathTerm fails, or has no circuit.
		{"i0:1, (eq 3:5 i0:3)", 3000, impl.SatOpen, ""}, {"(eq 12:5 (mul a:12 b:12))", 3000, impl.SatOpen, ""}, {"(eq a:16 b:16)", 3000, impl.SatOpen, ""}, {"1:0, (eq a:16 b:16)", 3000, impl.SatNo, ""},
	} {
		code, in := impl.PathInputs(p, withConds(t, p, c.conds), c.limit)
		if code != c.code || textOfInts(in) != c.want {
			t.Errorf("PathInputs of %s with %d = %d, %v, want %d, %s", c.conds, c.limit, code, in, c.code, c.want)
		}
	}
	s := slowStartPath(p)
	s.Cond = []impl.Term{sized(1, 239)}
	if code, in := impl.PathInputs(p, s, 3000); code != impl.SatOpen || len(in) != 0 {
		t.Errorf("PathInputs of 239 nodes = %d, %v", code, in)
	}
	// Without inputs.
	p = readProgram(t, "3 2 0|halt")
	if code, in := impl.PathInputs(p, slowStartPath(p), 0); code != impl.SatYes || len(in) != 0 {
		t.Errorf("PathInputs without inputs = %d, %v", code, in)
	}
}

func TestP7PathInputsOfAny(t *testing.T) {
	m := maker{state: 239}
	found := map[int]int{}
	for _, p := range forkingPrograms(300) {
		for range 6 {
			s := m.path(p)
			if !readsOnly(p, s.Cond) {
				continue
			}
			limit := []int{0, 1, 2, 5, 3000, 3000}[m.below(6)]
			want, values := impl.SatOpen, []impl.Value(nil)
			if all, ok := impl.PathTerm(s); ok {
				want, values = impl.SolveTerm(all, limit)
			}
			code, in := impl.PathInputs(p, s, limit)
			found[code]++
			if code != want || len(in) != p.In*truth(code == impl.SatYes) {
				t.Errorf("PathInputs of %s with %d = %d, %v, want %d, %v", textOfPath(s), limit, code, in, want, values)
				continue
			}
			// The least inputs for which the path holds.
			first := slices.IndexFunc(allWords(p), func(in []int) bool { return slowHolds(p, s, in) })
			if code == impl.SatNo && first >= 0 || code == impl.SatYes && (first < 0 || !slices.Equal(in, allWords(p)[first])) {
				t.Errorf("PathInputs of %s = %d, %v", textOfPath(s), code, in)
			}
		}
	}
	if found[impl.SatYes] < 300 || found[impl.SatNo] < 100 || found[impl.SatOpen] < 50 {
		t.Errorf("the answers are %v", found)
	}
}

func TestP7PathInputsInvalid(t *testing.T) {
	mustBeZero := func(p impl.Program, s impl.Path, limit int) {
		t.Helper()
		if code, in := impl.PathInputs(p, s, limit); code != 0 || len(in) != 0 {
			t.Errorf("PathInputs(%.300s, %.300s, %d) = %d, %v", dumpProgram(p), textOfPath(s), limit, code, in)
		}
	}
	p := readProgram(t, "3 2 1|in r0|halt")
	for _, limit := range badLimits {
		mustBeZero(p, slowStartPath(p), limit)
		mustBeZero(p, withConds(t, p, "i0:1, i0:1, (eq 3:0 i0:3)"), limit)
		mustBeZero(p, withConds(t, p, "(eq a:16 b:16)"), limit)
	}
	for _, s := range badPaths(p) {
		mustBeZero(p, s, 50)
	}
	for _, bad := range badPrograms() {
		mustBeZero(bad, slowStartPath(p), 50)
	}
}

const sumProgram = "3 2 1|in r0|set r1 3|add r0 r1|zero r0 6|out r0|halt|check r0"

func TestP7PathFor(t *testing.T) {
	for _, c := range []struct {
		program string
		in      []int
		fuel    int
		want    string
	}{
		{sumProgram, []int{4}, 0, "0|3:0, 3:0, 3:0, 3:0|3:0, 3:0||0||0|0||"}, {sumProgram, []int{4}, 1, "1|i0:3, 3:0, 3:0, 3:0|3:0, 3:0||1||0|1||"}, {sumProgram, []int{4}, 3, "3|(add 3:3 i0:3), 3:3, 3:0, 3:0|3:0, 3:0||1||0|3||"},
		{sumProgram, []int{4}, 4, "4|(add 3:3 i0:3), 3:3, 3:0, 3:0|3:0, 3:0||1||0|4|(not (eq 3:0 (add 3:3 i0:3)))|0"}, {sumProgram, []int{4}, 20, "5|(add 3:3 i0:3), 3:3, 3:0, 3:0|3:0, 3:0||1|(add 3:3 i0:3)|1|6|(not (eq 3:0 (add 3:3 i0:3)))|0"}, {sumProgram, []int{4}, 400, "5|(add 3:3 i0:3), 3:3, 3:0, 3:0|3:0, 3:0||1|(add 3:3 i0:3)|1|6|(not (eq 3:0 (add 3:3 i0:3)))|0"},
		{sumProgram, []int{5}, 4, "6|(add 3:3 i0:3), 3:3, 3:0, 3:0|3:0, 3:0||1||0|4|(eq 3:0 (add 3:3 i0:3))|1"}, {sumProgram, []int{5}, 20, "6|(add 3:3 i0:3), 3:3, 3:0, 3:0|3:0, 3:0||1||8|5|(eq 3:0 (add 3:3 i0:3)), (eq 3:0 (add 3:3 i0:3))|1 1"},
		{"2 1 0|not r0", nil, 1, "1|2:3, 2:0, 2:0, 2:0|2:0||0||0|1||"}, {"2 1 0|not r0", nil, 2, "1|2:3, 2:0, 2:0, 2:0|2:0||0||2|1||"}, {"2 1 0|not r0", nil, 400, "1|2:3, 2:0, 2:0, 2:0|2:0||0||2|1||"}, {"2 1 0|jump 0", nil, 400, "0|2:0, 2:0, 2:0, 2:0|2:0||0||0|400||"}, {"2 1 0|jump 0", nil, 399, "0|2:0, 2:0, 2:0, 2:0|2:0||0||0|399||"},
		// Both paths of the fork are at the same place.
		{"2 1 2|in r0|in r0|zero r0 3", []int{0, 1}, 4, "3|i1:2, 2:0, 2:0, 2:0|2:0||2||2|3|(not (eq 2:0 i1:2))|0"}, {"2 1 2|in r0|in r0|zero r0 3", []int{1, 0}, 4, "3|i1:2, 2:0, 2:0, 2:0|2:0||2||2|3|(eq 2:0 i1:2)|1"},
	} {
		p := readProgram(t, c.program)
		if got, ok := impl.PathFor(p, c.in, c.fuel); !ok || textOfPath(got) != c.want {
			t.Errorf("PathFor(%q, %v, %d) = %s, %v, want %s", c.program, c.in, c.fuel, textOfPath(got), ok, c.want)
		}
	}
}

// TestP7PathForOfManyTurns has a loop with a fork each time, so that there are too many at last.
func TestP7PathForOfManyTurns(t *testing.T) {
	p := readProgram(t, "8 1 1|in r0|zero r0 3|jump 1|halt")
	for fuel := range 401 {
		turns := fuel / 2
		want := impl.CodeRun
		if turns > 60 {
			turns, want = 60, impl.CodeBig
		}
		s, ok := impl.PathFor(p, []int{5}, fuel)
		if !ok || len(s.Turns) != turns || len(s.Cond) != turns || s.Code != want || s.Steps != min(fuel, 122) {
			t.Errorf("PathFor of %d steps has %d turns, %d conditions, the code %d and %d steps", fuel, len(s.Turns), len(s.Cond), s.Code, s.Steps)
		}
		with, fine := impl.PathWith(p, repeated(0, turns), fuel)
		if !fine || textOfPath(with) != textOfPath(s) {
			t.Errorf("PathWith of %d steps = %s, want %s", fuel, textOfPath(with), textOfPath(s))
		}
	}
}

func TestP7PathForOfAny(t *testing.T) {
	m := maker{state: 241}
	codes := map[int]int{}
	for _, p := range slices.Concat(forkingPrograms(400), somePrograms(200)) {
		for range 3 {
			in := m.inputs(p)
			slow := slowStartPath(p)
			for fuel := range 31 {
				s, ok := impl.PathFor(p, in, fuel)
				if !ok || textOfPath(s) != textOfPath(slow) {
					t.Errorf("PathFor(%s, %v, %d) = %s, %v, want %s", dumpProgram(p), in, fuel, textOfPath(s), ok, textOfPath(slow))
				}
				if !impl.HoldsPath(p, s, in) {
					t.Errorf("PathFor(%s, %v, %d) = %s, which does not hold", dumpProgram(p), in, fuel, textOfPath(s))
				}
				state, _ := impl.EvalPath(p, s, in)
				if want := textOfState(impl.RunProgram(p, in, fuel)); s.Code != impl.CodeBig && textOfState(state) != want {
					t.Errorf("PathFor(%s, %v, %d) has the state %s, want %s", dumpProgram(p), in, fuel, textOfState(state), want)
				}
				if with, ok := impl.PathWith(p, s.Turns, fuel); !ok || textOfPath(with) != textOfPath(s) {
					t.Errorf("PathWith(%s, %v, %d) = %s, %v, want %s", dumpProgram(p), s.Turns, fuel, textOfPath(with), ok, textOfPath(s))
				}
				for _, after := range slowPaths(p, slow) {
					if slowHolds(p, after, in) {
						slow = after
						break
					}
				}
				if fuel == 30 {
					codes[s.Code]++
				}
			}
		}
	}
	for code := impl.CodeRun; code <= impl.CodeBig; code++ {
		if codes[code] < 2 {
			t.Errorf("the codes are %v", codes)
		}
	}
}

func TestP7PathForInvalid(t *testing.T) {
	mustFail := func(p impl.Program, in []int, fuel int) {
		t.Helper()
		if s, ok := impl.PathFor(p, in, fuel); ok || !noPath(s) {
			t.Errorf("PathFor(%.300s, %.100s, %d) = %s, %v", dumpProgram(p), textOfInts(in), fuel, textOfPath(s), ok)
		}
	}
	p := readProgram(t, "3 2 1|in r0|halt")
	for _, fuel := range badFuels {
		mustFail(p, []int{1}, fuel)
	}
	for _, in := range badLists(3, 1) {
		mustFail(p, in, 5)
		mustFail(p, in, 0)
	}
	for _, bad := range badPrograms() {
		for n := range 3 {
			mustFail(bad, make([]int, n), 5)
		}
	}
}

func TestP7PathWith(t *testing.T) {
	twice := "2 1 2|in r0|in r1|zero r0 4|halt|check r1"
	for _, c := range []struct {
		program string
		turns   []int
		fuel    int
		want    string
	}{
		// It stops at the fork, however much fuel there is.
		{sumProgram, nil, 0, "0|3:0, 3:0, 3:0, 3:0|3:0, 3:0||0||0|0||"}, {sumProgram, nil, 2, "2|i0:3, 3:3, 3:0, 3:0|3:0, 3:0||1||0|2||"}, {sumProgram, nil, 3, "3|(add 3:3 i0:3), 3:3, 3:0, 3:0|3:0, 3:0||1||0|3||"}, {sumProgram, nil, 4, "3|(add 3:3 i0:3), 3:3, 3:0, 3:0|3:0, 3:0||1||0|3||"}, {sumProgram, nil, 400, "3|(add 3:3 i0:3), 3:3, 3:0, 3:0|3:0, 3:0||1||0|3||"},
		{sumProgram, []int{1}, 4, "6|(add 3:3 i0:3), 3:3, 3:0, 3:0|3:0, 3:0||1||0|4|(eq 3:0 (add 3:3 i0:3))|1"}, {sumProgram, []int{1}, 400, "6|(add 3:3 i0:3), 3:3, 3:0, 3:0|3:0, 3:0||1||0|4|(eq 3:0 (add 3:3 i0:3))|1"},
		{sumProgram, []int{0}, 4, "4|(add 3:3 i0:3), 3:3, 3:0, 3:0|3:0, 3:0||1||0|4|(not (eq 3:0 (add 3:3 i0:3)))|0"}, {sumProgram, []int{0}, 400, "5|(add 3:3 i0:3), 3:3, 3:0, 3:0|3:0, 3:0||1|(add 3:3 i0:3)|1|6|(not (eq 3:0 (add 3:3 i0:3)))|0"},
		{sumProgram, []int{1, 1}, 5, "6|(add 3:3 i0:3), 3:3, 3:0, 3:0|3:0, 3:0||1||8|5|(eq 3:0 (add 3:3 i0:3)), (eq 3:0 (add 3:3 i0:3))|1 1"},
		// No test takes these turns.
		{sumProgram, []int{1, 0}, 400, "7|(add 3:3 i0:3), 3:3, 3:0, 3:0|3:0, 3:0||1||2|5|(eq 3:0 (add 3:3 i0:3)), (not (eq 3:0 (add 3:3 i0:3)))|1 0"}, {sumProgram, []int{1, 0}, 5, "7|(add 3:3 i0:3), 3:3, 3:0, 3:0|3:0, 3:0||1||0|5|(eq 3:0 (add 3:3 i0:3)), (not (eq 3:0 (add 3:3 i0:3)))|1 0"},
		// There are too many turns.
		{sumProgram, []int{1}, 3, ""}, {sumProgram, []int{1}, 0, ""}, {sumProgram, []int{0, 1}, 400, ""}, {sumProgram, []int{0, 0}, 400, ""}, {sumProgram, []int{1, 1}, 4, ""}, {sumProgram, []int{1, 0, 0}, 400, ""}, {sumProgram, make([]int, 1000), 400, ""},
		// Some are no turns.
		{sumProgram, []int{2}, 400, ""}, {sumProgram, []int{-1}, 400, ""}, {sumProgram, []int{1, 2}, 400, ""}, {sumProgram, []int{0, 2}, 400, ""}, {sumProgram, []int{math.MinInt, 0}, 400, ""}, {sumProgram, []int{1, math.MaxInt}, 400, ""},
		{twice, []int{1, 0}, 9, "5|i0:2, i1:2, 2:0, 2:0|2:0||2||2|4|(eq 2:0 i0:2), (not (eq 2:0 i1:2))|1 0"}, {twice, []int{0}, 9, "3|i0:2, i1:2, 2:0, 2:0|2:0||2||1|4|(not (eq 2:0 i0:2))|0"}, {twice, []int{1}, 9, "4|i0:2, i1:2, 2:0, 2:0|2:0||2||0|3|(eq 2:0 i0:2)|1"}, {twice, []int{1, 1}, 4, "4|i0:2, i1:2, 2:0, 2:0|2:0||2||8|4|(eq 2:0 i0:2), (eq 2:0 i1:2)|1 1"},
		{"2 1 0|jump 0", nil, 400, "0|2:0, 2:0, 2:0, 2:0|2:0||0||0|400||"}, {"2 1 0|zero r0 0", nil, 7, "0|2:0, 2:0, 2:0, 2:0|2:0||0||0|7||"}, {"2 1 0|halt", nil, 7, "0|2:0, 2:0, 2:0, 2:0|2:0||0||1|1||"},
	} {
		p := readProgram(t, c.program)
		got, ok := impl.PathWith(p, c.turns, c.fuel)
		if ok != (c.want != "") || ok && textOfPath(got) != c.want || !ok && !noPath(got) {
			t.Errorf("PathWith(%q, %v, %d) = %s, %v, want %s", c.program, c.turns, c.fuel, textOfPath(got), ok, c.want)
		}
	}
}

func TestP7PathWithOfAny(t *testing.T) {
	m := maker{state: 251}
	fine := map[bool]int{}
	for _, p := range forkingPrograms(500) {
		for range 8 {
			turns, fuel := m.wordsBelow(0, 4, 2), m.below(20)
			want, left := slowStartPath(p), turns
			for range fuel {
				next := slowPaths(p, want)
				if len(next) == 0 || len(next) == 2 && len(left) == 0 {
					break
				}
				if len(next) == 1 {
					want = next[0]
				} else {
					want, left = next[1-left[0]], left[1:]
				}
			}
			got, ok := impl.PathWith(p, turns, fuel)
			fine[ok]++
			if ok != (len(left) == 0) || ok && textOfPath(got) != textOfPath(want) || !ok && !noPath(got) {
				t.Errorf("PathWith(%s, %v, %d) = %s, %v, want %s", dumpProgram(p), turns, fuel, textOfPath(got), ok, textOfPath(want))
			}
		}
	}
	if fine[true] < 1000 || fine[false] < 1000 {
		t.Errorf("PathWith succeeds and fails: %v", fine)
	}
}

func TestP7PathWithInvalid(t *testing.T) {
	p := readProgram(t, "3 2 1|in r0|halt")
	for _, fuel := range badFuels {
		if got, ok := impl.PathWith(p, nil, fuel); ok || !noPath(got) {
			t.Errorf("PathWith of %d steps = %s, %v", fuel, textOfPath(got), ok)
		}
	}
	for _, bad := range badPrograms() {
		if got, ok := impl.PathWith(bad, nil, 5); ok || !noPath(got) {
			t.Errorf("PathWith(%.300s) = %s, %v", dumpProgram(bad), textOfPath(got), ok)
		}
	}
	many := readProgram(t, "3 2 1|in r0"+strings.Repeat("|zero r0 0", 39))
	if got, ok := impl.PathWith(many, append(repeated(0, 39), 1), 400); ok || !noPath(got) {
		t.Errorf("PathWith of a turn too many = %s, %v", textOfPath(got), ok)
	}
	if got, ok := impl.PathWith(many, repeated(0, 39), 400); !ok || got.Code != impl.CodeEnd || got.Steps != 40 {
		t.Errorf("PathWith of 39 turns = %s, %v", textOfPath(got), ok)
	}
}
