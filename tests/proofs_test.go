package tests

import (
	"math"
	"runtime/debug"
	"slices"
	"testing"

	"loop.example/g03219/impl"
)

var dot = impl.Proof{}

func TestP4ProofOf(t *testing.T) {
	for _, c := range []struct {
		text  string
		limit int
		want  string
	}{
		{"0|", 0, "."}, {"3|", 0, "."}, {"1|1|-1", 0, "."}, {"2|1 2|-1 2|1 -2|-1 -2", 1, "1[..]"}, {"3|2 3|-2 3|2 -3|-2 -3", 10, "1[2[..]2[..]]"},
		{"3|1 2 3|1 2 -3|1 -2 3|1 -2 -3|-1 2 3|-1 2 -3|-1 -2 3|-1 -2 -3", 3, "1[2[..]2[..]]"}, {"4|1 2|-1|-2 3 4|-2 3 -4|-2 -3 4|-2 -3 -4", 5, "3[..]"}, {"3|1|2 3|-2 3|2 -3|-2 -3", 5, "2[..]"}, {"3|1 2|1 -2|-1 2 3|-1 2 -3|-1 -2 3|-1 -2 -3", 5, "1[.2[..]]"},
	} {
		if got, ok := impl.ProofOf(readFormula(t, c.text), c.limit); !ok || textOfProof(got) != c.want {
			t.Errorf("ProofOf(%q, %d) = %s, %v, want %s", c.text, c.limit, textOfProof(got), ok, c.want)
		}
	}
	mustFail := func(f impl.Formula, limit int) {
		if got, ok := impl.ProofOf(f, limit); ok || !alikeProofs(got, dot) {
			t.Errorf("ProofOf(%.200s, %d) = %s, %v", textOfFormula(f), limit, textOfProof(got), ok)
		}
	}
	for _, text := range []string{"0", "3", "1|1", "2|1 2|-1 -2"} {
		mustFail(readFormula(t, text), 100)
	}
	mustFail(square(0, 2), 0)
	mustFail(cube(), 2)
	mustFail(pigeons(8), 3000)
	for _, limit := range badLimits {
		mustFail(square(0, 2), limit)
		mustFail(impl.Formula{Clauses: [][]int{{}}}, limit)
	}
	for _, f := range badFormulas() {
		mustFail(f, 100)
	}
}

// TestP4ProofsOfFormulas checks that there is a proof that is accepted just if there is no model, and that it is the tree of the search.
func TestP4ProofsOfFormulas(t *testing.T) {
	for _, f := range append(someFormulas(1500), modelless(400)...) {
		p, ok := impl.ProofOf(f, 3000)
		if ok != (len(modelsWith(f, nil)) == 0) {
			t.Errorf("ProofOf(%s) = %s, %v", textOfFormula(f), textOfProof(p), ok)
		}
		slow := slowSearch{f: f, limit: 3000}
		if code, _, want := slow.with(nil); code == impl.SatNo && !alikeProofs(p, want) {
			t.Errorf("ProofOf(%s) = %s, want %s", textOfFormula(f), textOfProof(p), textOfProof(want))
		}
		if impl.CheckProof(f, nil, p) != ok {
			t.Errorf("CheckProof(%s, %s) = %v", textOfFormula(f), textOfProof(p), !ok)
		}
		if !ok {
			continue
		}
		if n := impl.ProofSize(p); n != 2*slow.splits+1 {
			t.Errorf("ProofSize(%s) = %d after %d splits", textOfProof(p), n, slow.splits)
		}
		if q, fine := impl.ProofOf(f, slow.splits); !fine || !alikeProofs(p, q) {
			t.Errorf("ProofOf(%s, %d) = %s, %v", textOfFormula(f), slow.splits, textOfProof(q), fine)
		}
		if slow.splits > 0 {
			if q, fine := impl.ProofOf(f, slow.splits-1); fine || !alikeProofs(q, dot) {
				t.Errorf("ProofOf(%s, %d) = %s, %v", textOfFormula(f), slow.splits-1, textOfProof(q), fine)
			}
		}
	}
}

func TestP4CheckProof(t *testing.T) {
	one := split(1, dot, dot)
	for _, c := range []struct {
		text string
		lits []int
		p    impl.Proof
		want bool
	}{
		{"0|", nil, dot, true}, {"0", nil, dot, false}, {"1|1|-1", nil, dot, true}, {"1|1|-1", nil, one, true}, {"1|1|-1", nil, split(1, one, one), true}, {"1|1", nil, dot, false}, {"1|1", nil, one, false}, {"1|1", []int{-1}, dot, true}, {"1|1", []int{1}, dot, false}, {"1|1", []int{1, -1}, dot, true}, {"1", []int{1, -1}, one, true}, {"1", []int{1, 1}, dot, false},
		{"2|1 2|-1 2|1 -2|-1 -2", nil, dot, false}, {"2|1 2|-1 2|1 -2|-1 -2", nil, one, true}, {"2|1 2|-1 2|1 -2|-1 -2", nil, split(2, dot, dot), true}, {"2|1 2|-1 2|1 -2|-1 -2", []int{2}, dot, true}, {"2|1 2|-1 2|1 -2|-1 -2", []int{2}, one, true},
		// Only one of both kids is wrong, or only at some depth.
		{"2|1 2|1 -2", nil, one, false}, {"2|-1 2|-1 -2", nil, one, false}, {"2|1 2|1 -2", []int{-1}, dot, true}, {"2|1 2|1 -2|-1", nil, dot, true}, {"3|1 2 3|1 2 -3|1 -2", nil, split(1, split(2, dot, dot), dot), false}, {"3|1 2 3|1 2 -3|1 -2|-1", nil, split(2, dot, dot), true},
		{"4|1 2 3|1 2 -3|1 -2 3|1 -2 -3|-1 2 3|-1 2 -3|-1 -2 3|-1 -2 -3", nil, split(1, split(2, dot, dot), split(2, dot, dot)), true}, {"4|1 2 3|1 2 -3|1 -2 3|1 -2 -3|-1 2 3|-1 2 -3|-1 -2 3|-1 -2 -3", nil, split(1, split(2, dot, dot), split(3, dot, dot)), true},
		{"4|1 2 3|1 2 -3|1 -2 3|1 -2 -3|-1 2 3|-1 2 -3|-1 -2 3|-1 -2 -3", nil, split(1, split(2, dot, dot), split(4, dot, dot)), false}, {"4|1 2 3|1 2 -3|1 -2 3|1 -2 -3|-1 2 3|-1 2 -3|-1 -2 3|-1 -2 -3", nil, split(1, dot, split(2, dot, dot)), false},
		{"4|1 2 3|1 2 -3|1 -2 3|1 -2 -3|-1 2 3|-1 2 -3|-1 -2 3|-1 -2 -3", nil, split(1, split(2, dot, dot), dot), false}, {"4|1 2 3|1 2 -3|1 -2 3|1 -2 -3|-1 2 3|-1 2 -3|-1 -2 3", nil, split(1, split(2, dot, dot), split(2, dot, dot)), false},
		// A variable again: the literals stay what they were, or become opposite.
		{"2|1 2|-1 2|1 -2|-1 -2", nil, split(1, split(1, dot, dot), dot), true}, {"2|1 2|1 -2", nil, split(1, dot, split(1, dot, dot)), false}, {"3|2 3|2 -3|-2 3|-2 -3", nil, split(1, split(1, split(2, dot, dot), dot), split(1, dot, split(2, dot, dot))), true},
		{"3|2 3|2 -3|-2 3|-2 -3", nil, split(1, split(1, dot, split(2, dot, dot)), split(2, dot, dot)), false}, {"3|2 3|2 -3|-2 3|-2 -3", nil, split(1, split(2, dot, dot), split(1, split(2, dot, dot), dot)), false},
		// What a first kid has must be gone for the second one.
		{"2|-1 2|-1 -2", nil, split(2, split(1, dot, dot), dot), false}, {"3|1 2|1 -2|-3", nil, split(1, dot, dot), false}, {"3|1 2|1 -2", nil, split(1, dot, split(3, dot, dot)), false},
	} {
		if got := impl.CheckProof(readFormula(t, c.text), c.lits, c.p); got != c.want {
			t.Errorf("CheckProof(%q, %v, %s) = %v", c.text, c.lits, textOfProof(c.p), got)
		}
	}
}

func TestP4CheckProofOfInvalid(t *testing.T) {
	for _, f := range badFormulas() {
		for _, p := range []impl.Proof{dot, split(1, dot, dot), split(0, dot)} {
			if impl.CheckProof(f, nil, p) || impl.CheckProof(f, []int{1, -1}, p) {
				t.Errorf("CheckProof(%.200s, %s) = true", textOfFormula(f), textOfProof(p))
			}
		}
	}
	for _, text := range []string{"0|", "1|", "3|", "3|1|-1", "400|1|-1"} {
		f := readFormula(t, text)
		for _, lits := range badLiterals(f.Vars) {
			if impl.CheckProof(f, lits, dot) {
				t.Errorf("CheckProof(%s, %v) = true", text, lits)
			}
		}
		for _, p := range badProofs(f.Vars) {
			if impl.CheckProof(f, nil, p) || f.Vars > 0 && impl.CheckProof(f, []int{1, -1}, p) {
				t.Errorf("CheckProof(%s, %s) = true", text, textOfProof(p))
			}
			if q, ok := impl.TrimProof(f, p); ok || !alikeProofs(q, dot) {
				t.Errorf("TrimProof(%s, %s) = %s, %v", text, textOfProof(p), textOfProof(q), ok)
			}
		}
	}
}

// spoilt makes proofs that differ from one at one place.
func (m *maker) spoilt(p impl.Proof, vars int) impl.Proof {
	if len(p.Kids) == 0 || m.below(4) == 0 {
		switch m.below(4) {
		case 0:
			return dot
		case 1:
			return split(m.below(vars+3)-1, p.Kids...)
		case 2:
			return split(1+m.below(vars), p, dot)
		}
		return split(p.Var, append(slices.Clone(p.Kids), dot)...)
	}
	i := m.below(len(p.Kids))
	kids := slices.Clone(p.Kids)
	kids[i] = m.spoilt(kids[i], vars)
	return split(p.Var, kids...)
}

func TestP4CheckProofOfAny(t *testing.T) {
	m := maker{state: 59}
	found := map[bool]int{}
	for _, f := range modelless(500)[2:] {
		p := m.proof(f, nil, m.below(5))
		if !impl.CheckProof(f, nil, p) {
			t.Errorf("CheckProof(%s, %s) = false", textOfFormula(f), textOfProof(p))
		}
		for range 10 {
			q, lits := m.spoilt(p, f.Vars), m.literals(f.Vars)
			want := slowCheck(f, lits, q)
			found[want]++
			if got := impl.CheckProof(f, lits, q); got != want {
				t.Errorf("CheckProof(%s, %v, %s) = %v", textOfFormula(f), lits, textOfProof(q), got)
			}
		}
	}
	for _, f := range someFormulas(500) {
		if len(modelsWith(f, nil)) > 0 && impl.CheckProof(f, nil, m.spoilt(split(1, dot, dot), f.Vars)) {
			t.Errorf("CheckProof(%s) = true, but there is a model", textOfFormula(f))
		}
	}
	if found[true] < 500 || found[false] < 500 {
		t.Errorf("the answers are %v", found)
	}
}

func TestP4ProofSize(t *testing.T) {
	for _, c := range []struct {
		p    impl.Proof
		want int
	}{
		{dot, 1}, {impl.Proof{Kids: []impl.Proof{}}, 1}, {split(5), 1}, {split(1, dot), 2}, {split(1, dot, dot), 3}, {split(math.MinInt, dot, split(-1, dot, dot, dot), dot), 7}, {split(0, split(0, split(0))), 3},
		{split(1, split(2, dot, dot), split(3, dot, split(4, dot, dot))), 9}, {deepProof(1000000, 1, 0, dot), 2000001}, {deepProof(1000000, 1, 1, dot), 2000001}, {impl.Proof{Kids: make([]impl.Proof, 1000)}, 1001},
	} {
		if got := impl.ProofSize(c.p); got != c.want {
			t.Errorf("ProofSize = %d, want %d", got, c.want)
		}
	}
}

func TestP4TrimProof(t *testing.T) {
	const two = "5|1 2|-1 2|1 -2|-1 -2|3 4|-3 4|3 -4|-3 -4"
	const three = "4|1 2 3|1 2 -3|1 -2 3|1 -2 -3|-1 2 3|-1 2 -3|-1 -2 3|-1 -2 -3"
	six := "6" + three[1:] + "|5 6|-5 6|5 -6|-5 -6"
	at1, at2, at3, at5 := split(1, dot, dot), split(2, dot, dot), split(3, dot, dot), split(5, dot, dot)
	for _, c := range []struct {
		text string
		p    impl.Proof
		want string
	}{
		{"0|", dot, "."}, {"1|", split(1, dot, dot), "."}, {"1|1|-1", split(1, split(1, dot, dot), dot), "."}, {"2|1 2|-1 2|1 -2|-1 -2", at1, "1[..]"}, {"2|1 2|-1 2|1 -2|-1 -2", at2, "2[..]"}, {"2|1 2|-1 2|1 -2|-1 -2", split(1, at2, split(2, at1, dot)), "1[..]"},
		// The split is not needed at the root: the first kid that does takes its place, be it the first or the second one.
		{two, split(5, at1, at1), "1[..]"}, {two, split(5, at1, at3), "1[..]"}, {two, split(5, at3, at1), "3[..]"}, {two, split(5, split(5, at3, dot), at1), "3[..]"}, {"6|1 2|-1 2|1 -2|-1 -2|5 6|5 -6", split(5, dot, at1), "1[..]"}, {"6|1 2|-1 2|1 -2|-1 -2|-5 6|-5 -6", split(5, at1, dot), "1[..]"},
		{six, split(1, at5, split(2, dot, dot)), "5[..]"}, {six, split(1, at2, at5), "5[..]"}, {six, split(1, at5, at2), "5[..]"}, {six, split(1, at5, at5), "5[..]"}, {six, split(1, at2, split(6, dot, dot)), "6[..]"}, {six, split(1, at2, at3), "1[2[..]3[..]]"},
		// What takes its place is trimmed before, and with literals by which a leaf is enough the kid is one.
		{six, split(1, split(4, at5, at2), at2), "5[..]"}, {six, split(1, split(2, at5, at5), at2), "1[2[..]2[..]]"}, {two, split(1, at3, at3), "1[..]"}, {two, split(1, at3, dot), "1[..]"},
		// Below it, on both sides and more than once.
		{three, split(1, split(4, at2, at2), at2), "1[2[..]2[..]]"}, {three, split(1, at2, split(4, at3, at2)), "1[2[..]3[..]]"}, {three, split(4, split(1, split(4, at2, dot), at3), split(1, at2, at2)), "1[2[..]3[..]]"}, {three, split(1, split(4, split(4, at2, dot), at2), split(4, at3, split(4, dot, at2))), "1[2[..]3[..]]"},
		{three, split(1, at2, at3), "1[2[..]3[..]]"}, {three, split(1, split(2, at3, split(3, dot, at1)), at2), "1[2[..]2[..]]"},
		// A variable again, or one that is propagated.
		{three, split(1, split(1, at2, dot), split(1, dot, at3)), "1[2[..]3[..]]"}, {"4|1|-1 2|3 4|-3 4|3 -4|-3 -4", split(1, dot, split(2, dot, at3)), "3[..]"}, {"4|-1|1 -2|3 4|-3 4|3 -4|-3 -4", split(1, split(2, at3, dot), dot), "3[..]"}, {"4|-1|1 -2|3 4|-3 4|3 -4|-3 -4", split(2, at3, dot), "3[..]"},
	} {
		f := readFormula(t, c.text)
		if got, ok := impl.TrimProof(f, c.p); !ok || textOfProof(got) != c.want {
			t.Errorf("TrimProof(%q, %s) = %s, %v, want %s", c.text, textOfProof(c.p), textOfProof(got), ok, c.want)
		}
	}
	mustFail := func(f impl.Formula, p impl.Proof) {
		if got, ok := impl.TrimProof(f, p); ok || !alikeProofs(got, dot) {
			t.Errorf("TrimProof(%.200s, %s) = %s, %v", textOfFormula(f), textOfProof(p), textOfProof(got), ok)
		}
	}
	for _, p := range []impl.Proof{dot, split(4, dot, dot), split(1, at2, dot), split(1, dot, at2), split(1, at2, split(4, dot, dot)), split(5, at1, at1), split(1, at2), split(1, at2, at2, at2), split(0, at1, at1)} {
		mustFail(cube(), p)
	}
	for _, text := range []string{"0", "1|1", "2|1 2"} {
		mustFail(readFormula(t, text), dot)
		mustFail(readFormula(t, text), at1)
	}
	for _, f := range badFormulas() {
		mustFail(f, dot)
		mustFail(f, at1)
	}
}

func TestP4TrimmedProofsAreAccepted(t *testing.T) {
	m := maker{state: 61}
	smaller, same := 0, 0
	for _, f := range modelless(500)[2:] {
		p := m.proof(f, nil, m.below(5))
		if m.below(3) == 0 {
			p, _ = impl.ProofOf(f, 3000)
		}
		q, ok := impl.TrimProof(f, p)
		if want := slowTrim(f, nil, p); !ok || !alikeProofs(q, want) {
			t.Errorf("TrimProof(%s, %s) = %s, %v, want %s", textOfFormula(f), textOfProof(p), textOfProof(q), ok, textOfProof(want))
		}
		if !impl.CheckProof(f, nil, q) || !slowCheck(f, nil, q) {
			t.Errorf("TrimProof(%s, %s) = %s, which is not accepted", textOfFormula(f), textOfProof(p), textOfProof(q))
		}
		switch before, after := slowSize(p), slowSize(q); {
		case after > before:
			t.Errorf("TrimProof(%s, %s) = %s, which is larger", textOfFormula(f), textOfProof(p), textOfProof(q))
		case after == before:
			same++
		default:
			smaller++
		}
		bad := m.spoilt(p, f.Vars)
		if _, ok := impl.TrimProof(f, bad); ok != slowCheck(f, nil, bad) {
			t.Errorf("TrimProof(%s, %s) = %v", textOfFormula(f), textOfProof(bad), ok)
		}
	}
	if smaller < 50 || same < 50 {
		t.Errorf("%d proofs become smaller, %d stay as they are", smaller, same)
	}
}

func TestP4ProofOfPigeons(t *testing.T) {
	f := pigeons(5)
	p, ok := impl.ProofOf(f, 3000)
	q, fine := impl.TrimProof(f, p)
	if !ok || !fine || !impl.CheckProof(f, nil, p) || !impl.CheckProof(f, nil, q) || impl.ProofSize(q) >= impl.ProofSize(p) {
		t.Errorf("proofs of %d and %d nodes, %v, %v", impl.ProofSize(p), impl.ProofSize(q), ok, fine)
	}
	if want := slowTrim(f, nil, p); !alikeProofs(q, want) {
		t.Errorf("TrimProof = %s, want %s", textOfProof(q), textOfProof(want))
	}
}

// TestP4DeepProofs splits by the same variable again and again, in the kid in which nothing changes by that. Calls as deep as the proof would need more than the stack that there is then.
func TestP4DeepProofs(t *testing.T) {
	const depth = 400000
	defer debug.SetMaxStack(debug.SetMaxStack(1 << 24))
	f := square(0, 2)
	for kid := range 2 {
		p := deepProof(depth, 1, kid, split(1, dot, dot))
		if !impl.CheckProof(f, nil, p) {
			t.Errorf("CheckProof of a deep proof, kid %d = false", kid)
		}
		if q, ok := impl.TrimProof(f, p); !ok || textOfProof(q) != "1[..]" {
			t.Errorf("TrimProof of a deep proof, kid %d = %.200s, %v", kid, textOfProof(q), ok)
		}
		q := deepProof(depth, 1, kid, split(3, dot, dot))
		if impl.CheckProof(f, nil, q) {
			t.Errorf("CheckProof of a deep proof that is wrong, kid %d = true", kid)
		}
		if q, ok := impl.TrimProof(f, q); ok || !alikeProofs(q, dot) {
			t.Errorf("TrimProof of a deep proof that is wrong, kid %d: %v", kid, ok)
		}
		at2 := split(2, dot, dot)
		// No literal of the fourth variable makes Propagate fail.
		kids := []impl.Proof{split(1, at2, at2), split(1, at2, at2)}
		kids[kid] = deepProof(depth, 4, kid, kids[kid])
		if q, ok := impl.TrimProof(cube(), split(4, kids...)); !ok || textOfProof(q) != "1[2[..]2[..]]" {
			t.Errorf("TrimProof of a deep proof that stays open, kid %d = %.200s, %v", kid, textOfProof(q), ok)
		}
		kids[kid] = deepProof(depth, 4, kid, split(1, at2, dot))
		if _, ok := impl.TrimProof(cube(), split(4, kids...)); ok || impl.CheckProof(cube(), nil, split(4, kids...)) {
			t.Errorf("CheckProof of a deep proof that is wrong at its end, kid %d = true", kid)
		}
		failed := readFormula(t, "1|1|-1")
		if q, ok := impl.TrimProof(failed, p); !ok || !alikeProofs(q, dot) || !impl.CheckProof(failed, nil, p) || !impl.CheckProof(failed, []int{1, -1}, p) {
			t.Errorf("TrimProof without splits, kid %d = %.200s, %v", kid, textOfProof(q), ok)
		}
		if impl.CheckProof(impl.Formula{Vars: 1}, nil, p) {
			t.Errorf("CheckProof without clauses, kid %d = true", kid)
		}
	}
}

// TestP4ProofOfMaxBools has a proof with a split for each variable but one below each other.
func TestP4ProofOfMaxBools(t *testing.T) {
	f := impl.Formula{Vars: 400}
	var all []int
	for v := 1; v < 400; v++ {
		f.Clauses = append(f.Clauses, append(slices.Clone(all), -v, 400), append(slices.Clone(all), -v, -400))
		all = append(all, v)
	}
	f.Clauses = append(f.Clauses, append(slices.Clone(all), 400), append(slices.Clone(all), -400))
	p, ok := impl.ProofOf(f, 399)
	q, fine := impl.TrimProof(f, p)
	if !ok || !fine || impl.ProofSize(p) != 799 || !impl.CheckProof(f, nil, p) || !alikeProofs(p, q) {
		t.Errorf("proofs of %d and %d nodes, %v, %v", impl.ProofSize(p), impl.ProofSize(q), ok, fine)
	}
	if _, ok := impl.ProofOf(f, 398); ok {
		t.Error("ProofOf with 398 splits does not fail")
	}
}
