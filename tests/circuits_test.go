package tests

import (
	"slices"
	"strconv"
	"testing"

	"loop.example/g03219/impl"
)

func TestP5ConstantsOfCircuits(t *testing.T) {
	if impl.MaxGates != 360 {
		t.Errorf("MaxGates = %d", impl.MaxGates)
	}
}

func TestP5CircuitOk(t *testing.T) {
	for _, c := range []impl.Circuit{
		{}, {Gates: []impl.Gate{}}, circuit(1), circuit(30), circuit(29, gate(2, 30)), circuit(30, gate(2, 31)), circuit(30, gate(-30, -31)), filled(0), filled(1), filled(359), filled(360),
		circuit(2, gate(2, 3)), circuit(2, gate(-2, 3)), circuit(2, gate(2, -3)), circuit(2, gate(-2, -3)), circuit(2, gate(2, 3), gate(-2, 3), gate(2, -3), gate(-2, -3)),
		circuit(2, gate(2, 3), gate(2, 4), gate(3, 4), gate(-4, -5), gate(2, 7)), circuit(2, gate(2, 3), gate(3, -4), gate(-3, 4)),
	} {
		if !impl.CircuitOk(c) {
			t.Errorf("CircuitOk(%s) = false", textOfCircuit(c))
		}
	}
	for _, c := range badCircuits() {
		if impl.CircuitOk(c) {
			t.Errorf("CircuitOk(%.200s) = true", textOfCircuit(c))
		}
	}
	m := maker{state: 71}
	for range 500 {
		c := m.circuit(m.below(31), m.below(40))
		if !impl.CircuitOk(c) {
			t.Errorf("CircuitOk(%s) = false", textOfCircuit(c))
		}
		// A gate may not be there already, and not read what comes behind it.
		if i := len(c.Gates) - 1; i >= 0 {
			again := circuit(c.Inputs, append(slices.Clone(c.Gates), c.Gates[m.below(i+1)])...)
			late := circuit(c.Inputs, append(slices.Clone(c.Gates), gate(2, lastLine(c)+1+m.below(3)))...)
			if impl.CircuitOk(again) || impl.CircuitOk(late) {
				t.Errorf("CircuitOk(%s) or CircuitOk(%s) = true", textOfCircuit(again), textOfCircuit(late))
			}
		}
	}
}

// A making of a literal: what one of the functions of gates makes of a circuit and some literals.
type literalMaking struct {
	circuit string
	lits    []int
	want    string
	lit     int
}

// makeLiteral calls AndOf, OrOf, XorOf or IfOf.
func makeLiteral(name string, c impl.Circuit, l []int) (impl.Circuit, int, bool) {
	switch name {
	case "AndOf":
		return impl.AndOf(c, l[0], l[1])
	case "OrOf":
		return impl.OrOf(c, l[0], l[1])
	case "XorOf":
		return impl.XorOf(c, l[0], l[1])
	}
	return impl.IfOf(c, l[0], l[1], l[2])
}

func (s *slowCircuit) literal(name string, l []int) int {
	switch name {
	case "AndOf":
		return s.and(l[0], l[1])
	case "OrOf":
		return s.or(l[0], l[1])
	case "XorOf":
		return s.xor(l[0], l[1])
	}
	return s.choose(l[0], l[1], l[2])
}

func truthOf(name string, b []bool) bool {
	switch name {
	case "AndOf":
		return b[0] && b[1]
	case "OrOf":
		return b[0] || b[1]
	case "XorOf":
		return b[0] != b[1]
	}
	return b[0] && b[1] || !b[0] && b[2]
}

var makerNames = []string{"AndOf", "OrOf", "XorOf", "IfOf"}

// literalsOf is the number of literals of a function of gates.
func literalsOf(name string) int {
	return 2 + truth(name == "IfOf")
}

func checkLiterals(t *testing.T, name string, l []literalMaking) {
	t.Helper()
	for _, c := range l {
		got, lit, ok := makeLiteral(name, readCircuit(t, c.circuit), c.lits)
		if !ok || textOfCircuit(got) != c.want || lit != c.lit {
			t.Errorf("%s(%s, %v) = %s, %d, %v, want %s, %d", name, c.circuit, c.lits, textOfCircuit(got), lit, ok, c.want, c.lit)
		}
	}
}

func TestP5AndOf(t *testing.T) {
	checkLiterals(t, "AndOf", []literalMaking{
		// -1 comes before all others.
		{"2", []int{-1, 2}, "2", -1}, {"2", []int{2, -1}, "2", -1}, {"2", []int{-1, 1}, "2", -1}, {"2", []int{1, -1}, "2", -1}, {"2", []int{-1, -1}, "2", -1}, {"0", []int{-1, -1}, "0", -1}, {"2", []int{-1, -3}, "2", -1}, {"2", []int{-3, -1}, "2", -1},
		{"2", []int{2, -2}, "2", -1}, {"2", []int{-2, 2}, "2", -1}, {"2|2 3", []int{4, -4}, "2|2 3", -1}, {"2|2 3", []int{-4, 4}, "2|2 3", -1},
		{"2", []int{1, 2}, "2", 2}, {"2", []int{1, -2}, "2", -2}, {"2", []int{2, 1}, "2", 2}, {"2", []int{-2, 1}, "2", -2}, {"2", []int{1, 1}, "2", 1}, {"0", []int{1, 1}, "0", 1}, {"2|2 3", []int{1, -4}, "2|2 3", -4},
		{"2", []int{2, 2}, "2", 2}, {"2", []int{-3, -3}, "2", -3}, {"2|2 3", []int{-4, -4}, "2|2 3", -4},
		// A gate that is there, in both orders.
		{"2|2 3", []int{2, 3}, "2|2 3", 4}, {"2|2 3", []int{3, 2}, "2|2 3", 4}, {"2|2 3|-2 3", []int{3, -2}, "2|2 3|-2 3", 5}, {"2|2 3|-2 -3|3 4", []int{4, 3}, "2|2 3|-2 -3|3 4", 6}, {"2|2 3|-2 -3|3 4", []int{-3, -2}, "2|2 3|-2 -3|3 4", 5},
		// A new gate, in both orders; one with other signs is another one.
		{"2", []int{2, 3}, "2|2 3", 4}, {"2", []int{3, 2}, "2|2 3", 4}, {"2", []int{-3, 2}, "2|2 -3", 4}, {"2", []int{3, -2}, "2|-2 3", 4}, {"2", []int{-2, 3}, "2|-2 3", 4}, {"2", []int{-3, -2}, "2|-2 -3", 4},
		{"2|2 3", []int{-2, 3}, "2|2 3|-2 3", 5}, {"2|2 3", []int{2, -3}, "2|2 3|2 -3", 5}, {"2|2 3", []int{-2, -3}, "2|2 3|-2 -3", 5}, {"2|2 3", []int{-4, 2}, "2|2 3|2 -4", 5}, {"2|2 3|-2 -3", []int{-5, -4}, "2|2 3|-2 -3|-4 -5", 6},
		{"30", []int{-31, 2}, "30|2 -31", 32}, {"30", []int{30, 31}, "30|30 31", 32},
	})
}

func TestP5OrOf(t *testing.T) {
	checkLiterals(t, "OrOf", []literalMaking{
		{"2", []int{1, 2}, "2", 1}, {"2", []int{2, 1}, "2", 1}, {"2", []int{1, -1}, "2", 1}, {"2", []int{-1, 1}, "2", 1}, {"2", []int{1, 1}, "2", 1}, {"0", []int{-1, -1}, "0", -1}, {"2", []int{2, -2}, "2", 1}, {"2", []int{-2, 2}, "2", 1},
		{"2", []int{-1, 2}, "2", 2}, {"2", []int{2, -1}, "2", 2}, {"2", []int{-1, -2}, "2", -2}, {"2", []int{-2, -1}, "2", -2}, {"2", []int{3, 3}, "2", 3}, {"2", []int{-3, -3}, "2", -3},
		{"2", []int{2, 3}, "2|-2 -3", -4}, {"2", []int{3, 2}, "2|-2 -3", -4}, {"2", []int{-2, 3}, "2|2 -3", -4}, {"2", []int{3, -2}, "2|2 -3", -4}, {"2", []int{-3, -2}, "2|2 3", -4},
		{"2|2 3", []int{2, 3}, "2|2 3|-2 -3", -5}, {"2|2 3", []int{-2, -3}, "2|2 3", -4}, {"2|2 -3|-2 -3", []int{3, 2}, "2|2 -3|-2 -3", -5}, {"2|2 3", []int{4, -2}, "2|2 3|2 -4", -5},
	})
}

func TestP5XorOf(t *testing.T) {
	checkLiterals(t, "XorOf", []literalMaking{
		{"2", []int{1, 2}, "2", -2}, {"2", []int{2, 1}, "2", -2}, {"2", []int{-1, 2}, "2", 2}, {"2", []int{2, -1}, "2", 2}, {"2", []int{1, -2}, "2", 2}, {"2", []int{1, 1}, "2", -1}, {"2", []int{1, -1}, "2", 1}, {"0", []int{-1, 1}, "0", 1}, {"0", []int{-1, -1}, "0", -1},
		{"2", []int{2, 2}, "2", -1}, {"2", []int{-3, -3}, "2", -1}, {"2", []int{2, -2}, "2", 1}, {"2", []int{-3, 3}, "2", 1},
		// The gate with the first literal as it is comes first.
		{"2", []int{2, 3}, "2|2 -3|-2 3|-4 -5", -6}, {"2", []int{3, 2}, "2|-2 3|2 -3|-4 -5", -6}, {"2", []int{-2, 3}, "2|-2 -3|2 3|-4 -5", -6}, {"2", []int{2, -3}, "2|2 3|-2 -3|-4 -5", -6}, {"2", []int{-3, 2}, "2|-2 -3|2 3|-4 -5", -6}, {"2", []int{-2, -3}, "2|-2 3|2 -3|-4 -5", -6},
		// Gates that are there.
		{"2|-2 3", []int{2, 3}, "2|-2 3|2 -3|-4 -5", -6}, {"2|2 -3", []int{2, 3}, "2|2 -3|-2 3|-4 -5", -6}, {"2|2 -3|-2 3|-4 -5", []int{3, 2}, "2|2 -3|-2 3|-4 -5", -6}, {"2|2 -3|-2 3|2 3", []int{2, 3}, "2|2 -3|-2 3|2 3|-4 -5", -7},
		{"2|2 3", []int{4, 2}, "2|2 3|-2 4|2 -4|-5 -6", -7},
	})
}

func TestP5IfOf(t *testing.T) {
	checkLiterals(t, "IfOf", []literalMaking{
		{"3", []int{1, 3, 4}, "3", 3}, {"3", []int{-1, 3, 4}, "3", 4}, {"3", []int{1, -3, 4}, "3", -3}, {"3", []int{-1, 3, -4}, "3", -4}, {"0", []int{1, -1, 1}, "0", -1}, {"0", []int{-1, -1, 1}, "0", 1},
		{"3", []int{2, 1, -1}, "3", 2}, {"3", []int{2, -1, 1}, "3", -2}, {"3", []int{-2, 1, -1}, "3", -2}, {"3", []int{2, 1, 1}, "3", 1}, {"3", []int{2, -1, -1}, "3", -1},
		{"3", []int{2, 3, 4}, "3|2 3|-2 4|-5 -6", -7}, {"3", []int{-2, 3, 4}, "3|-2 3|2 4|-5 -6", -7}, {"3", []int{4, 3, 2}, "3|3 4|2 -4|-5 -6", -7}, {"3", []int{3, -4, -2}, "3|3 -4|-2 -3|-5 -6", -7},
		{"3", []int{2, 3, 3}, "3|2 3|-2 3|-5 -6", -7}, {"3", []int{2, 3, -3}, "3|2 3|-2 -3|-5 -6", -7}, {"3", []int{2, 2, 4}, "3|-2 4|-2 -5", -6}, {"3", []int{2, 3, 2}, "3|2 3", 5}, {"3", []int{2, -2, 4}, "3|-2 4", 5}, {"3", []int{2, 1, 4}, "3|-2 4|-2 -5", -6}, {"3", []int{2, 3, 1}, "3|2 3|2 -5", -6}, {"3", []int{2, -1, 4}, "3|-2 4", 5}, {"3", []int{2, 3, -1}, "3|2 3", 5},
		{"3|-2 4|2 3", []int{2, 3, 4}, "3|-2 4|2 3|-5 -6", -7}, {"3|-2 4", []int{2, 3, 4}, "3|-2 4|2 3|-5 -6", -7}, {"3|2 3|-2 4|-5 -6", []int{2, 3, 4}, "3|2 3|-2 4|-5 -6", -7}, {"3|3 4|2 3|-2 4|-6 -7", []int{-2, 4, 3}, "3|3 4|2 3|-2 4|-6 -7", -8},
	})
}

// mustNotMake fails the test if a function of gates makes something.
func mustNotMake(t *testing.T, name string, c impl.Circuit, lits []int) {
	t.Helper()
	if got, lit, ok := makeLiteral(name, c, lits); ok || lit != 0 || !noCircuit(got) {
		t.Errorf("%s(%.200s, %v) = %.200s, %d, %v", name, textOfCircuit(c), lits, textOfCircuit(got), lit, ok)
	}
}

func TestP5GatesFailForInvalid(t *testing.T) {
	for _, name := range makerNames {
		for _, c := range badCircuits() {
			for _, lits := range [][]int{{1, 1, 1}, {-1, -1, -1}, {1, -1, 1}, {2, 3, 2}, {2, 2, 2}, {2, -2, 1}} {
				mustNotMake(t, name, c, lits)
			}
		}
		for _, c := range []impl.Circuit{circuit(0), circuit(1), circuit(2, gate(2, 3)), circuit(30), filled(360)} {
			for _, bad := range noLiterals(c) {
				for _, good := range []int{1, -1, lastLine(c), -lastLine(c)} {
					for place := range literalsOf(name) {
						mustNotMake(t, name, c, slices.Insert(repeated(good, literalsOf(name)-1), place, bad))
						mustNotMake(t, name, c, slices.Insert([]int{good, -good}[:literalsOf(name)-1], place, bad))
					}
				}
			}
		}
	}
}

// TestP5GatesAreTrue checks that literals are made word for word, are true where they should be, and leave what was there.
func TestP5GatesAreTrue(t *testing.T) {
	m := maker{state: 73}
	for range 4000 {
		c := m.circuit(m.below(5), m.below(8))
		name := makerNames[m.below(len(makerNames))]
		lits := m.number(c, literalsOf(name))
		slow := slowOn(c)
		want := slow.literal(name, lits)
		got, lit, ok := makeLiteral(name, c, lits)
		if !ok || !alikeCircuits(got, slow.Circuit) || lit != want {
			t.Fatalf("%s(%s, %v) = %s, %d, %v, want %s, %d", name, textOfCircuit(c), lits, textOfCircuit(got), lit, ok, textOfCircuit(slow.Circuit), want)
		}
		if !impl.CircuitOk(got) || !slices.Equal(got.Gates[:len(c.Gates)], c.Gates) {
			t.Errorf("%s(%s, %v) = %s, which is not valid or has other gates", name, textOfCircuit(c), lits, textOfCircuit(got))
		}
		for _, in := range assignments(c.Inputs) {
			lines := linesOf(got, in)
			var b []bool
			for _, l := range lits {
				b = append(b, isTrue(l, lines))
			}
			if isTrue(lit, lines) != truthOf(name, b) {
				t.Errorf("%s(%s, %v) = %s, %d, which is wrong for %v", name, textOfCircuit(c), lits, textOfCircuit(got), lit, in)
			}
		}
		again, same, ok := makeLiteral(name, got, lits)
		if !ok || same != lit || !alikeCircuits(again, got) {
			t.Errorf("%s(%s, %v) = %s, %d, %v for the second time", name, textOfCircuit(got), lits, textOfCircuit(again), same, ok)
		}
	}
}

// TestP5GatesThatHaveRoom makes literals with just as many gates as there is room for, and with less room.
func TestP5GatesThatHaveRoom(t *testing.T) {
	made := map[string]map[bool]int{}
	for _, name := range makerNames {
		made[name] = map[bool]int{}
		for gates := 355; gates <= 360; gates++ {
			c := filled(gates)
			for _, lits := range [][]int{
				{2, 3, 4}, {-2, 3, 4}, {2, -3, -4}, {-2, -3, -4}, {-30, 31, 29}, {31, 30, 2}, {31, 31, 2}, {31, -31, 5}, {2, 3, 3}, {2, 3, -3}, {-3, 2, 1}, {2, 1, 3}, {2, -1, 3}, {1, -30, 31}, {-1, -30, 31}, {30, -1, -31},
				{lastLine(c), 2, -3}, {-lastLine(c), 2, 2}, {lastLine(c), lastLine(c) - 1, 1}, {-3, -2, -31},
			} {
				l := lits[:literalsOf(name)]
				slow := slowOn(c)
				want := slow.literal(name, l)
				fits := len(slow.Gates) <= 360
				made[name][fits]++
				if !fits {
					mustNotMake(t, name, c, l)
				} else if got, lit, ok := makeLiteral(name, c, l); !ok || lit != want || !alikeCircuits(got, slow.Circuit) {
					t.Errorf("%s of %d gates and %v = %d gates, %d, %v, want %d, %d", name, gates, l, len(got.Gates), lit, ok, len(slow.Gates), want)
				}
			}
		}
		if made[name][true] < 10 || made[name][false] < 10 {
			t.Errorf("%s has room in %v", name, made[name])
		}
	}
}

func TestP5EvalCircuit(t *testing.T) {
	for _, c := range []struct {
		text string
		in   []bool
		want string
	}{
		{"0", nil, "1"}, {"0", []bool{}, "1"}, {"1", []bool{false}, "10"}, {"1", []bool{true}, "11"}, {"3", []bool{true, false, true}, "1101"},
		{"2|2 3", []bool{true, true}, "1111"}, {"2|2 3", []bool{true, false}, "1100"}, {"2|2 3", []bool{false, true}, "1010"}, {"2|-2 3", []bool{false, true}, "1011"}, {"2|-2 3", []bool{true, true}, "1110"}, {"2|2 -3", []bool{true, false}, "1101"}, {"2|-2 -3", []bool{false, false}, "1001"}, {"2|-2 -3", []bool{false, true}, "1010"},
		{"2|2 -3|-2 3|-4 -5", []bool{true, false}, "110100"}, {"2|2 -3|-2 3|-4 -5", []bool{true, true}, "111001"}, {"2|2 3|2 -4|-3 5", []bool{true, false}, "110011"},
	} {
		if got := impl.EvalCircuit(readCircuit(t, c.text), c.in); textOfModel(got) != c.want {
			t.Errorf("EvalCircuit(%s, %v) = %s, want %s", c.text, c.in, textOfModel(got), c.want)
		}
	}
	for _, c := range []struct {
		text string
		size int
	}{{"0", 1}, {"1", 0}, {"1", 2}, {"2|2 3", 0}, {"2|2 3", 1}, {"2|2 3", 3}, {"2|2 3", 4}, {"30", 29}, {"30", 31}} {
		if got := impl.EvalCircuit(readCircuit(t, c.text), make([]bool, c.size)); len(got) != 0 {
			t.Errorf("EvalCircuit(%s) of %d inputs = %v", c.text, c.size, got)
		}
	}
	for _, c := range badCircuits() {
		for _, size := range []int{0, 1, 2, 3, 30, min(max(c.Inputs, 0), 40)} {
			if got := impl.EvalCircuit(c, make([]bool, size)); len(got) != 0 {
				t.Errorf("EvalCircuit(%.200s) of %d inputs = %v", textOfCircuit(c), size, got)
			}
		}
	}
}

func TestP5EvalCircuitOfAny(t *testing.T) {
	m := maker{state: 79}
	circuits := []impl.Circuit{filled(360), circuit(30)}
	for range 2000 {
		circuits = append(circuits, m.circuit(m.below(31), m.below(60)))
	}
	for _, c := range circuits {
		in := make([]bool, c.Inputs)
		for i := range in {
			in[i] = m.below(2) == 0
		}
		if got := impl.EvalCircuit(c, in); !slices.Equal(got, linesOf(c, in)) {
			t.Errorf("EvalCircuit(%s, %v) = %s, want %s", textOfCircuit(c), in, textOfModel(got), textOfModel(linesOf(c, in)))
		}
	}
}

func TestP5FormulaOf(t *testing.T) {
	for _, c := range []struct {
		text string
		lit  int
		want string
	}{
		{"0", 1, "1|1|1"}, {"0", -1, "1|1|-1"}, {"2", 1, "3|1|1"}, {"2", -1, "3|1|-1"}, {"2", 3, "3|1|3"}, {"2", -2, "3|1|-2"}, {"30", 31, "31|1|31"},
		{"2|2 3", 4, "4|1|2 -4|3 -4|-2 -3 4|4"}, {"2|2 3", 1, "4|1|2 -4|3 -4|-2 -3 4|1"}, {"2|2 3", -1, "4|1|2 -4|3 -4|-2 -3 4|-1"}, {"2|2 3", -4, "4|1|2 -4|3 -4|-2 -3 4|-4"}, {"2|-2 3", 2, "4|1|-2 -4|3 -4|2 -3 4|2"}, {"2|2 -3", 4, "4|1|2 -4|-3 -4|-2 3 4|4"}, {"2|-2 -3", -3, "4|1|-2 -4|-3 -4|2 3 4|-3"},
		{"3|3 4|-2 -5", -6, "6|1|3 -5|4 -5|-3 -4 5|-2 -6|-5 -6|2 5 6|-6"},
	} {
		if got, ok := impl.FormulaOf(readCircuit(t, c.text), c.lit); !ok || textOfFormula(got) != c.want {
			t.Errorf("FormulaOf(%s, %d) = %s, %v, want %s", c.text, c.lit, textOfFormula(got), ok, c.want)
		}
	}
	check := func(c impl.Circuit, lit int) {
		if got, ok := impl.FormulaOf(c, lit); ok || got.Vars != 0 || len(got.Clauses) != 0 {
			t.Errorf("FormulaOf(%.200s, %d) = %.200s, %v", textOfCircuit(c), lit, textOfFormula(got), ok)
		}
	}
	for _, c := range badCircuits() {
		for _, lit := range []int{1, -1, 2, 3} {
			check(c, lit)
		}
	}
	for _, c := range []impl.Circuit{circuit(0), circuit(1), circuit(2, gate(2, 3)), circuit(30), filled(360)} {
		for _, bad := range noLiterals(c) {
			check(c, bad)
		}
	}
}

// TestP5FormulaHasJustTheModels compares the models of formulas with what circuits make of all inputs.
func TestP5FormulaHasJustTheModels(t *testing.T) {
	m := maker{state: 83}
	for range 400 {
		c := m.circuit(m.below(5), m.below(7))
		lit := m.literal(lastLine(c))
		f, ok := impl.FormulaOf(c, lit)
		if !ok || !impl.FormulaOk(f) || !alikeFormulas(f, slowFormula(c, lit)) {
			t.Fatalf("FormulaOf(%s, %d) = %s, %v", textOfCircuit(c), lit, textOfFormula(f), ok)
		}
		var want [][]bool
		for _, in := range assignments(c.Inputs) {
			if lines := linesOf(c, in); isTrue(lit, lines) {
				want = append(want, lines)
			}
		}
		if got := modelsWith(f, nil); !slices.EqualFunc(got, want, slices.Equal[[]bool]) {
			t.Errorf("FormulaOf(%s, %d) = %s, which has the models %v, want %v", textOfCircuit(c), lit, textOfFormula(f), got, want)
		}
	}
	full := filled(360)
	for _, lit := range []int{1, -1, 391, -391, 32, -2} {
		f, ok := impl.FormulaOf(full, lit)
		if !ok || !impl.FormulaOk(f) || f.Vars != 391 || len(f.Clauses) != 1082 || !alikeFormulas(f, slowFormula(full, lit)) {
			t.Errorf("FormulaOf of 360 gates and %s = %d variables, %d clauses, %v", strconv.Itoa(lit), f.Vars, len(f.Clauses), ok)
		}
	}
}
