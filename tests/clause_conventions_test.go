package tests

import (
	"math"
	"slices"
	"strconv"
	"strings"
	"testing"

	"loop.example/g03219/impl"
)

func formulaRegions(f impl.Formula) []region {
	l := regionOf(f.Clauses)
	for _, clause := range f.Clauses {
		l = append(l, regionOf(clause)...)
	}
	return l
}

func proofRegions(p impl.Proof) []region {
	l := regionOf(p.Kids)
	for _, kid := range p.Kids {
		l = append(l, proofRegions(kid)...)
	}
	return l
}

// roomyInts returns a copy of a list with other numbers in spare capacity behind it.
func roomyInts(l []int) []int {
	return append(slices.Clone(l), 1, -1, math.MinInt, 7)[:len(l)]
}

func roomyFormula(f impl.Formula) impl.Formula {
	var l [][]int
	for _, clause := range f.Clauses {
		l = append(l, roomyInts(clause))
	}
	return impl.Formula{Vars: f.Vars, Clauses: append(l, []int{1, 2}, []int{0}, nil)[:len(l)]}
}

func roomyProof(p impl.Proof) impl.Proof {
	var l []impl.Proof
	for _, kid := range p.Kids {
		l = append(l, roomyProof(kid))
	}
	return impl.Proof{Var: p.Var, Kids: append(l, split(1, dot, dot), split(-5))[:len(l)]}
}

func dumpInts(l []int) string {
	return strconv.Itoa(len(l)) + "(" + textOfInts(l[:cap(l)]) + ")"
}

// dumpFormula writes everything that a formula has, with what is in spare capacity.
func dumpFormula(f impl.Formula) string {
	parts := []string{strconv.Itoa(f.Vars), strconv.Itoa(len(f.Clauses))}
	for _, clause := range f.Clauses[:cap(f.Clauses)] {
		parts = append(parts, dumpInts(clause))
	}
	return strings.Join(parts, " ")
}

func dumpProof(p impl.Proof) string {
	parts := []string{strconv.Itoa(p.Var), strconv.Itoa(len(p.Kids))}
	for _, kid := range p.Kids[:cap(p.Kids)] {
		parts = append(parts, dumpProof(kid))
	}
	return "[" + strings.Join(parts, " ") + "]"
}

// A clauseArgs has arguments for all functions of clauses.
type clauseArgs struct {
	f     impl.Formula
	a, b  []int
	m     []bool
	p     impl.Proof
	n     int
	limit int
}

func listUse(l []int, ok bool) ([]region, string) {
	return regionOf(l), textOfInts(l) + " " + strconv.FormatBool(ok)
}

func clauseUses() []use[clauseArgs] {
	return []use[clauseArgs]{
		{"FormulaOk", func(x clauseArgs) ([]region, string) { return nil, strconv.FormatBool(impl.FormulaOk(x.f)) }},
		{"MakeClause", func(x clauseArgs) ([]region, string) { return listUse(impl.MakeClause(x.a)) }},
		{"EvalFormula", func(x clauseArgs) ([]region, string) { return nil, strconv.FormatBool(impl.EvalFormula(x.f, x.m)) }},
		{"Propagate", func(x clauseArgs) ([]region, string) { return listUse(impl.Propagate(x.f, x.a)) }},
		{"Search", func(x clauseArgs) ([]region, string) {
			code, model, splits := impl.Search(x.f, x.a, x.limit)
			return regionOf(model), textOfInts([]int{code, splits}) + " " + textOfModel(model)
		}},
		{"CountModels", func(x clauseArgs) ([]region, string) { return nil, strconv.Itoa(impl.CountModels(x.f)) }},
		{"ProofOf", func(x clauseArgs) ([]region, string) {
			p, ok := impl.ProofOf(x.f, x.limit)
			return proofRegions(p), textOfProof(p) + strconv.FormatBool(ok)
		}},
		{"CheckProof", func(x clauseArgs) ([]region, string) {
			return nil, strconv.FormatBool(impl.CheckProof(x.f, x.a, x.p))
		}},
		{"ProofSize", func(x clauseArgs) ([]region, string) { return nil, strconv.Itoa(impl.ProofSize(x.p)) }},
		{"TrimProof", func(x clauseArgs) ([]region, string) {
			p, ok := impl.TrimProof(x.f, x.p)
			return proofRegions(p), textOfProof(p) + strconv.FormatBool(ok)
		}},
		{"CoreOf", func(x clauseArgs) ([]region, string) { return listUse(impl.CoreOf(x.f, x.limit)) }},
		{"Resolve", func(x clauseArgs) ([]region, string) { return listUse(impl.Resolve(x.a, x.b, x.n)) }},
		{"Implied", func(x clauseArgs) ([]region, string) { return nil, strconv.Itoa(impl.Implied(x.f, x.b, x.limit)) }},
		{"FormatFormula", func(x clauseArgs) ([]region, string) { return nil, impl.FormatFormula(x.f) }},
		{"ParseFormula", func(x clauseArgs) ([]region, string) {
			f, ok := impl.ParseFormula(impl.FormatFormula(x.f))
			return formulaRegions(f), textOfFormula(f) + strconv.FormatBool(ok)
		}},
	}
}

// someArgs are arguments that are valid, but for those of every seventh one.
func someArgs(n int) []clauseArgs {
	m := maker{state: 67}
	var l []clauseArgs
	formulas := slices.Concat(someFormulas(n), modelless(n/2), []impl.Formula{pigeons(3), cube()})
	bad := badFormulas()
	for i, f := range formulas {
		if i%7 == 6 {
			f = bad[i/7%len(bad)]
		}
		vars := min(max(f.Vars, 1), 12)
		x := clauseArgs{f: f, a: m.literals(vars), b: m.clause(vars, 2), m: make([]bool, vars), n: 1 + m.below(vars), limit: 3000}
		if m.below(2) == 0 {
			x.a, x.b, x.n = []int{1, 2}, []int{-1, 3}, 1
		}
		x.p, _ = impl.ProofOf(f, 3000)
		if m.below(3) > 0 {
			x.p = split(vars, x.p, x.p)
		}
		l = append(l, x)
	}
	return l
}

func roomyArgs(x clauseArgs) clauseArgs {
	x.f, x.a, x.b, x.p = roomyFormula(x.f), roomyInts(x.a), roomyInts(x.b), roomyProof(x.p)
	x.m = append(slices.Clone(x.m), true, false)[:len(x.m)]
	return x
}

func dumpArgs(x clauseArgs) string {
	return strings.Join([]string{dumpFormula(x.f), dumpInts(x.a), dumpInts(x.b), textOfModel(x.m[:cap(x.m)]), dumpProof(x.p)}, "; ")
}

func TestP11ArgumentsOfClausesUnchanged(t *testing.T) {
	checkUnchanged(t, clauseUses(), someArgs(400), roomyArgs, dumpArgs)
}

func TestP11ClausesAreNew(t *testing.T) {
	for _, plain := range someArgs(400) {
		x := roomyArgs(plain)
		arguments := slices.Concat(formulaRegions(x.f), regionOf(x.a), regionOf(x.b), regionOf(x.m), proofRegions(x.p))
		for _, use := range clauseUses() {
			result, _ := use.call(x)
			mustBeNew(t, use.name+" of "+textOfFormula(x.f), result, arguments)
		}
	}
}

// TestP11ProofsThatShareKids gives proofs some of whose nodes have the same list of kids, and formulas whose clauses are one list.
func TestP11ProofsThatShareKids(t *testing.T) {
	leaves := []impl.Proof{{}, {}}
	at2, at3 := impl.Proof{Var: 2, Kids: leaves}, impl.Proof{Var: 3, Kids: leaves}
	both := []impl.Proof{at2, at3}
	p := split(4, split(4, impl.Proof{Var: 1, Kids: both}, dot), impl.Proof{Var: 1, Kids: both})
	q, ok := impl.TrimProof(cube(), p)
	if !ok || textOfProof(q) != "1[2[..]3[..]]" {
		t.Errorf("TrimProof = %s, %v", textOfProof(q), ok)
	}
	mustBeNew(t, "TrimProof", proofRegions(q), slices.Concat(proofRegions(p), regionOf(both), regionOf(leaves)))
	spoil(q.Kids, split(99))
	if again, ok := impl.TrimProof(cube(), p); !ok || textOfProof(again) != "1[2[..]3[..]]" || textOfProof(p) != "4[4[1[2[..]3[..]].]1[2[..]3[..]]]" {
		t.Errorf("TrimProof after a changed result = %s, %v", textOfProof(again), ok)
	}
	numbers := []int{1, 2, 3}
	f := impl.Formula{Vars: 3, Clauses: [][]int{numbers, numbers[:2], numbers[1:], numbers[:0], numbers[:1]}}
	if got, ok := impl.CoreOf(f, 10); !ok || textOfInts(got) != "3" {
		t.Errorf("CoreOf = %v, %v", got, ok)
	}
	f.Clauses[3] = numbers[2:]
	if got, ok := impl.Propagate(f, numbers[1:2]); !ok || textOfInts(got) != "1 2 3" || textOfFormula(f) != "3|1 2 3|1 2|2 3|3|1" {
		t.Errorf("Propagate = %v, %v", got, ok)
	}
	if code, model, _ := impl.Search(f, nil, 10); code != impl.SatYes || textOfModel(model) != "101" || textOfFormula(f) != "3|1 2 3|1 2|2 3|3|1" {
		t.Errorf("Search = %d, %s", code, textOfModel(model))
	}
}

func TestP11NilAndEmptyOfClauses(t *testing.T) {
	empty := impl.Formula{Vars: 2, Clauses: [][]int{}}
	if a, b := impl.FormatFormula(empty), impl.FormatFormula(impl.Formula{Vars: 2}); a != b || a != "2" {
		t.Errorf("FormatFormula = %q and %q", a, b)
	}
	for _, clause := range [][]int{nil, {}} {
		f := impl.Formula{Vars: 2, Clauses: [][]int{{1}, clause}}
		if got := impl.FormatFormula(f); got != "2|1|" {
			t.Errorf("FormatFormula = %q", got)
		}
		if code, _, _ := impl.Search(f, clause, 5); code != impl.SatNo {
			t.Errorf("Search = %d", code)
		}
		if !impl.CheckProof(f, clause, impl.Proof{Kids: []impl.Proof{}}) || !impl.CheckProof(f, clause, impl.Proof{}) {
			t.Error("CheckProof of a leaf = false")
		}
		if q, ok := impl.TrimProof(f, split(1, impl.Proof{Kids: []impl.Proof{}}, impl.Proof{})); !ok || !alikeProofs(q, dot) {
			t.Errorf("TrimProof = %s, %v", textOfProof(q), ok)
		}
		if got, ok := impl.MakeClause(clause); !ok || len(got) != 0 {
			t.Errorf("MakeClause = %v, %v", got, ok)
		}
		if got, ok := impl.Propagate(empty, clause); !ok || len(got) != 0 {
			t.Errorf("Propagate = %v, %v", got, ok)
		}
		if got := impl.Implied(empty, clause, 5); got != impl.SatNo {
			t.Errorf("Implied = %d", got)
		}
	}
	if !impl.EvalFormula(impl.Formula{}, nil) || !impl.EvalFormula(impl.Formula{}, []bool{}) {
		t.Error("EvalFormula of no variables = false")
	}
	if code, model, splits := impl.Search(impl.Formula{}, nil, 0); code != impl.SatYes || len(model) != 0 || splits != 0 {
		t.Errorf("Search without variables = %d, %v, %d", code, model, splits)
	}
}

func TestP11NoPanicOfClauses(t *testing.T) {
	formulas := append(badFormulas(), impl.Formula{}, impl.Formula{Vars: 3, Clauses: [][]int{{1, 2}, {-1, 3}}}, square(0, 400))
	lists := slices.Concat(badClauses(3), badLiterals(400), badLiterals(0), [][]int{nil, {}, {1}, {400, -400}})
	proofs := slices.Concat(badProofs(0), badProofs(3), badProofs(400))
	for i, f := range formulas {
		for j, l := range lists {
			x := clauseArgs{f: f, a: l, b: lists[(i+3*j)%len(lists)], m: make([]bool, j), p: proofs[(i+j)%len(proofs)], n: oddInts[(i+j)%len(oddInts)], limit: oddInts[(3*i+j)%len(oddInts)]}
			for _, use := range clauseUses() {
				mustNot(t, use.name, func() { use.call(x) })
			}
		}
	}
	for _, s := range oddTexts() {
		mustNot(t, "ParseFormula", func() { impl.ParseFormula(s) })
	}
	deep := deepProof(300000, math.MinInt, 0, split(7, dot))
	for _, f := range formulas {
		mustNot(t, "a function of a deep proof", func() {
			if q, ok := impl.TrimProof(f, deep); impl.CheckProof(f, nil, deep) || ok || !alikeProofs(q, dot) {
				t.Errorf("TrimProof(%.200s) of a deep proof = %s, %v", textOfFormula(f), textOfProof(q), ok)
			}
		})
	}
}
