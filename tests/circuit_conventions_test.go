package tests

import (
	"slices"
	"strconv"
	"strings"
	"testing"

	"loop.example/g03219/impl"
)

// A circuitArgs has arguments for all functions of circuits.
type circuitArgs struct {
	c       impl.Circuit
	x, y, z int
	a, b    []int
	op      int
	in      []bool
	u, v    impl.Term
	limit   int
}

func literalUse(c impl.Circuit, lit int, ok bool) ([]region, string) {
	return regionOf(c.Gates), textOfCircuit(c) + " " + strconv.Itoa(lit) + strconv.FormatBool(ok)
}

func numberUse(c impl.Circuit, number []int, ok bool) ([]region, string) {
	return slices.Concat(regionOf(c.Gates), regionOf(number)), textOfCircuit(c) + " " + textOfInts(number) + strconv.FormatBool(ok)
}

func solveUse(code int, l []impl.Value) ([]region, string) {
	return regionOf(l), strconv.Itoa(code) + textOfValues(l)
}

func circuitUses() []use[circuitArgs] {
	return []use[circuitArgs]{
		{"CircuitOk", func(x circuitArgs) ([]region, string) { return nil, strconv.FormatBool(impl.CircuitOk(x.c)) }},
		{"AndOf", func(x circuitArgs) ([]region, string) { return literalUse(impl.AndOf(x.c, x.x, x.y)) }},
		{"AndOf of 1", func(x circuitArgs) ([]region, string) { return literalUse(impl.AndOf(x.c, 1, x.y)) }},
		{"OrOf", func(x circuitArgs) ([]region, string) { return literalUse(impl.OrOf(x.c, x.x, x.y)) }},
		{"XorOf", func(x circuitArgs) ([]region, string) { return literalUse(impl.XorOf(x.c, x.x, x.y)) }},
		{"IfOf", func(x circuitArgs) ([]region, string) { return literalUse(impl.IfOf(x.c, x.z, x.x, x.y)) }},
		{"EvalCircuit", func(x circuitArgs) ([]region, string) {
			l := impl.EvalCircuit(x.c, x.in)
			return regionOf(l), textOfModel(l)
		}},
		{"AddLits", func(x circuitArgs) ([]region, string) {
			c, sum, last, ok := impl.AddLits(x.c, x.a, x.b, x.z)
			l, s := numberUse(c, sum, ok)
			return l, s + strconv.Itoa(last)
		}},
		{"AddLits of nothing", func(x circuitArgs) ([]region, string) {
			c, sum, last, ok := impl.AddLits(x.c, x.a[:0], x.b[:0], x.z)
			l, s := numberUse(c, sum, ok)
			return l, s + strconv.Itoa(last)
		}},
		{"OpLits", func(x circuitArgs) ([]region, string) { return numberUse(impl.OpLits(x.c, x.op, x.a, x.b)) }},
		{"OpLits of one number", func(x circuitArgs) ([]region, string) { return numberUse(impl.OpLits(x.c, x.op, x.a, x.a)) }},
		{"CircuitOf", func(x circuitArgs) ([]region, string) { return numberUse(impl.CircuitOf(x.u)) }},
		{"FormulaOf", func(x circuitArgs) ([]region, string) {
			f, ok := impl.FormulaOf(x.c, x.x)
			return formulaRegions(f), textOfFormula(f) + strconv.FormatBool(ok)
		}},
		{"SolveTerm", func(x circuitArgs) ([]region, string) { return solveUse(impl.SolveTerm(x.u, x.limit)) }},
		{"HoldsTerm", func(x circuitArgs) ([]region, string) { return solveUse(impl.HoldsTerm(x.u, x.limit)) }},
		{"LeastOf", func(x circuitArgs) ([]region, string) {
			least, greatest, ok := impl.LeastOf(x.u, x.v, x.limit)
			return nil, textOfInts([]int{least, greatest}) + strconv.FormatBool(ok)
		}},
	}
}

// someCircuitArgs are arguments that are valid, but for those of every seventh one.
func someCircuitArgs(n int) []circuitArgs {
	m := maker{state: 127}
	bad, badUs := badCircuits(), badTerms()
	terms := slices.Concat(conditions(n/2), someTerms(n/2))
	var l []circuitArgs
	for i := range n {
		c := m.circuit(m.below(6), m.below(8))
		w, lits := 1+m.below(5), m.number(c, 3)
		x := circuitArgs{c: c, x: lits[0], y: lits[1], z: lits[2], a: m.number(c, w), b: m.number(c, w), op: 3 + m.below(14), in: make([]bool, c.Inputs), u: terms[i], v: terms[(5*i+2)%len(terms)], limit: 60}
		if i%7 == 6 {
			x.c, x.u, x.v = bad[i/7%len(bad)], badUs[i%len(badUs)], badUs[(3*i+1)%len(badUs)]
		}
		l = append(l, x)
	}
	return l
}

func roomyCircuitArgs(x circuitArgs) circuitArgs {
	x.c.Gates = append(slices.Clone(x.c.Gates), gate(-2, 3), gate(7, 1), gate(0, 0))[:len(x.c.Gates)]
	x.a, x.b = roomyInts(x.a), roomyInts(x.b)
	x.in = append(slices.Clone(x.in), true, false)[:len(x.in)]
	x.u, x.v = roomy(x.u), roomy(x.v)
	return x
}

// dumpCircuitArgs writes all arguments that have memory, with what is in spare capacity.
func dumpCircuitArgs(x circuitArgs) string {
	whole := circuit(x.c.Inputs, x.c.Gates[:cap(x.c.Gates)]...)
	return strings.Join([]string{strconv.Itoa(len(x.c.Gates)), textOfCircuit(whole), dumpInts(x.a), dumpInts(x.b), textOfModel(x.in[:cap(x.in)]), dump(x.u), dump(x.v)}, "; ")
}

func TestP11ArgumentsOfCircuitsUnchanged(t *testing.T) {
	checkUnchanged(t, circuitUses(), someCircuitArgs(500), roomyCircuitArgs, dumpCircuitArgs)
}

func TestP11CircuitsAreNew(t *testing.T) {
	for _, plain := range someCircuitArgs(500) {
		x := roomyCircuitArgs(plain)
		arguments := slices.Concat(regionOf(x.c.Gates), regionOf(x.a), regionOf(x.b), regionOf(x.in), regionsOf(x.u, x.v))
		for _, use := range circuitUses() {
			result, _ := use.call(x)
			mustBeNew(t, use.name+" of "+textOfCircuit(x.c), result, arguments)
		}
	}
	// A changed result leaves later ones as they are.
	for range 3 {
		c, number, ok := impl.CircuitOf(read(t, "(add a:1 b:1)"))
		f, fine := impl.FormulaOf(c, number[0])
		code, values := impl.SolveTerm(read(t, "(less a:2 b:2)"), 50)
		if !ok || !fine || textOfCircuit(c) != "2|2 -3|-2 3|-4 -5|2 3" || textOfInts(number) != "-6" || f.Vars != 7 || len(f.Clauses) != 14 || code != impl.SatYes || textOfValues(values) != "a:2=0 b:2=1" {
			t.Errorf("the results are %s, %v, %s and %s", textOfCircuit(c), number, textOfFormula(f), textOfValues(values))
		}
		spoil(c.Gates, gate(9, 9))
		spoil(number, 99)
		spoil(f.Clauses[1], 99)
		spoil(f.Clauses, nil)
		spoil(values, impl.Value{Name: "x", W: 9, N: 9})
	}
}

// TestP11CircuitsThatShareMemory gives circuits and numbers that are parts of one list.
func TestP11CircuitsThatShareMemory(t *testing.T) {
	gates := []impl.Gate{gate(2, 3), gate(-2, 3), gate(2, -3), gate(-4, -5)}
	for n := range gates {
		c := impl.Circuit{Inputs: 2, Gates: gates[:n]}
		got, lit, ok := impl.OrOf(c, 2, 3)
		if !ok || lit != -(4+n) || len(got.Gates) != n+1 || got.Gates[n] != gate(-2, -3) {
			t.Errorf("OrOf(%s) = %s, %d, %v", textOfCircuit(c), textOfCircuit(got), lit, ok)
		}
		if want := "2|2 3|-2 3|2 -3|-4 -5"; textOfCircuit(circuit(2, gates...)) != want {
			t.Fatalf("OrOf leaves the gates %v", gates)
		}
	}
	lits := []int{2, 3, 4, 5, 6, 7}
	for _, op := range binaryOps {
		checkOp(t, circuit(6), op, lits[:4], lits[2:], assignments(6))
		checkOp(t, circuit(6), op, lits[:3], lits[3:], assignments(6))
		checkOp(t, circuit(6), op, lits[:3], lits[:3], assignments(6))
	}
	checkSum(t, circuit(6), lits[:5], lits[1:], 4, assignments(6))
	if textOfInts(lits) != "2 3 4 5 6 7" {
		t.Errorf("the literals are %v now", lits)
	}
	// A term some of whose nodes have one list of kids.
	a := variable(4, "a")
	kids := []impl.Term{node(impl.OpCut, 2, 0, a), node(impl.OpCut, 2, 2, a)}
	u := node(impl.OpEq, 1, 0, node(impl.OpJoin, 4, 0, kids...), node(impl.OpGrow, 4, 0, node(impl.OpAdd, 2, 0, kids...)))
	want, fine := firstValues(u)
	if code, l := impl.SolveTerm(u, 300); !fine || code != impl.SatYes || !slices.Equal(l, want) || !impl.TermOk(u) {
		t.Errorf("SolveTerm(%s) = %d, %s, want %s", textOf(u), code, textOfValues(l), textOfValues(want))
	}
}

func TestP11NilAndEmptyOfCircuits(t *testing.T) {
	for _, c := range []impl.Circuit{{}, {Gates: []impl.Gate{}}} {
		for _, none := range [][]int{nil, {}} {
			if got, sum, last, ok := impl.AddLits(c, none, none, -1); !ok || !noCircuit(got) || len(sum) != 0 || last != -1 {
				t.Errorf("AddLits of nothing = %s, %v, %d, %v", textOfCircuit(got), sum, last, ok)
			}
			if got, number, ok := impl.OpLits(c, impl.OpAdd, none, none); ok || !noCircuit(got) || len(number) != 0 {
				t.Errorf("OpLits of nothing = %s, %v, %v", textOfCircuit(got), number, ok)
			}
		}
		if got, lit, ok := impl.AndOf(c, 1, -1); !ok || !noCircuit(got) || lit != -1 {
			t.Errorf("AndOf = %s, %d, %v", textOfCircuit(got), lit, ok)
		}
		if got, ok := impl.FormulaOf(c, -1); !ok || textOfFormula(got) != "1|1|-1" {
			t.Errorf("FormulaOf = %s, %v", textOfFormula(got), ok)
		}
		if a, b := impl.EvalCircuit(c, nil), impl.EvalCircuit(c, []bool{}); textOfModel(a) != "1" || textOfModel(b) != "1" {
			t.Errorf("EvalCircuit = %v, %v", a, b)
		}
	}
	one := impl.Term{Op: impl.OpConst, W: 1, N: 1, Kids: []impl.Term{}}
	if code, l := impl.SolveTerm(one, 0); code != impl.SatYes || len(l) != 0 {
		t.Errorf("SolveTerm = %d, %v", code, l)
	}
	if least, greatest, ok := impl.LeastOf(one, one, 0); !ok || least != 1 || greatest != 1 {
		t.Errorf("LeastOf = %d, %d, %v", least, greatest, ok)
	}
}

func TestP11NoPanicOfCircuits(t *testing.T) {
	circuits := append(badCircuits(), circuit(0), circuit(2, gate(2, 3)), circuit(30), filled(360), impl.Circuit{Inputs: 1, Gates: make([]impl.Gate, 100000)})
	terms := slices.Concat(badTerms(), []impl.Term{nots(239, variable(1, "a")), sized(16, 240), constant(1, 0), variable(16, "a")})
	lists := [][]int{nil, {}, {0}, {1}, {-1}, {2, 3}, {1, 0, 1}, repeated(1, 15), repeated(-2, 16), repeated(1, 17), repeated(0, 15), repeated(2, 100000), slices.Clone(oddInts)}
	for i, c := range circuits {
		for j, lit := range oddInts {
			x := circuitArgs{
				c: c, x: lit, y: oddInts[(i+3*j)%len(oddInts)], z: oddInts[(2*i+j)%len(oddInts)], a: lists[(i+j)%len(lists)], b: lists[(i+j+i/5%2)%len(lists)],
				op: 1 + (i+j)%18, in: make([]bool, j), u: terms[(i*len(oddInts)+j)%len(terms)], v: terms[(i+7*j)%len(terms)], limit: oddInts[(i+5*j)%len(oddInts)],
			}
			if j%3 == 0 {
				x.op, x.limit = lit, 60
			}
			for _, use := range circuitUses() {
				mustNot(t, use.name, func() { use.call(x) })
			}
		}
	}
}

// TestP11DeepTerms gives functions of circuits terms that are deeper than calls may be.
func TestP11DeepTerms(t *testing.T) {
	deep := nots(300000, variable(1, "a"))
	mustNot(t, "a function of a deep term", func() {
		mustHaveNoCircuit(t, deep)
		mustHaveNoLeast(t, deep, deep, 50)
		if code, l := impl.SolveTerm(deep, 50); code != 0 || len(l) != 0 {
			t.Errorf("SolveTerm = %d, %v", code, l)
		}
		if code, l := impl.HoldsTerm(deep, 50); code != 0 || len(l) != 0 {
			t.Errorf("HoldsTerm = %d, %v", code, l)
		}
	})
}
