package tests

import (
	"slices"
	"testing"

	"loop.example/g03219/impl"
)

// A termUse is a call of a function of terms with two terms and some values, and what it gives.
type termUse struct {
	name string
	call func(u, v impl.Term, l []impl.Value) (impl.Term, bool)
}

func termUses() []termUse {
	return []termUse{
		{"PutTerm", func(u, v impl.Term, l []impl.Value) (impl.Term, bool) { return impl.PutTerm(u, "a3", v) }},
		{"PutTerm of no variable", func(u, v impl.Term, l []impl.Value) (impl.Term, bool) { return impl.PutTerm(u, "none", v) }},
		{"MakeTerm", func(u, v impl.Term, l []impl.Value) (impl.Term, bool) { return impl.MakeTerm(u.Op, u.W, u.N, u.Kids) }},
		{"MakeTerm of equal kids", func(u, v impl.Term, l []impl.Value) (impl.Term, bool) {
			return impl.MakeTerm(impl.OpMul, u.W, 0, []impl.Term{u, u})
		}},
		{"MakeTerm of 0", func(u, v impl.Term, l []impl.Value) (impl.Term, bool) {
			return impl.MakeTerm(impl.OpAdd, u.W, 0, []impl.Term{constant(u.W, 0), u})
		}},
		{"Simplify", func(u, v impl.Term, l []impl.Value) (impl.Term, bool) { return impl.Simplify(u), impl.TermOk(u) }},
		{"AllOf", func(u, v impl.Term, l []impl.Value) (impl.Term, bool) {
			return impl.AllOf([]impl.Term{node(impl.OpEq, 1, 0, u, v), u, v, node(impl.OpLess, 1, 0, v, u)})
		}},
		{"AllOf of one", func(u, v impl.Term, l []impl.Value) (impl.Term, bool) { return impl.AllOf([]impl.Term{u}) }},
		{"PutValues", func(u, v impl.Term, l []impl.Value) (impl.Term, bool) { return impl.PutValues(u, l) }},
		{"PutValues without values", func(u, v impl.Term, l []impl.Value) (impl.Term, bool) { return impl.PutValues(u, nil) }},
		{"ParseTerm", func(u, v impl.Term, l []impl.Value) (impl.Term, bool) { return impl.ParseTerm(impl.FormatTerm(u)) }},
		{"ConstTerm", func(u, v impl.Term, l []impl.Value) (impl.Term, bool) {
			return impl.ConstTerm(u.W, u.N), impl.WordOk(u.W, u.N)
		}},
	}
}

// useAll calls the functions of terms that give no term.
func useAll(u, v impl.Term, l []impl.Value) {
	impl.TermOk(u)
	impl.SizeOf(u)
	impl.VarsOf(u)
	impl.ValuesOk(l)
	impl.EvalTerm(u, l)
	impl.CompareTerms(u, v)
	impl.IsSimple(u)
	impl.FormatTerm(u)
	impl.TableOf(u)
	impl.VarTerm(u.W, u.Name)
}

func TestP11ArgumentsOfTermsUnchanged(t *testing.T) {
	terms := slices.Concat(someTerms(400), badTerms())
	for i, plain := range terms {
		u, v := roomy(plain), roomy(terms[(i*5+3)%len(terms)])
		l := append(valuesOf(u, nil), impl.Value{Name: "spare", W: 99}, impl.Value{N: 5})
		short := l[:len(l)-2]
		before, beforeV, beforeL := dump(u), dump(v), slices.Clone(l)
		useAll(u, v, short)
		for _, use := range termUses() {
			use.call(u, v, short)
			if dump(u) != before || dump(v) != beforeV || !slices.Equal(l, beforeL) {
				t.Fatalf("%s changes an argument: %s becomes %s", use.name, before, dump(u))
			}
		}
	}
	kids := []impl.Term{constant(3, 1), node(impl.OpAdd, 3, 0, constant(3, 2), variable(3, "a")), variable(9, "behind")}
	if got, ok := impl.MakeTerm(impl.OpAdd, 3, 0, kids[:2]); !ok || textOf(got) != "(add 3:3 a:3)" || dump(kids[2]) != dump(variable(9, "behind")) || textOf(kids[1]) != "(add 3:2 a:3)" {
		t.Errorf("MakeTerm = %s, %v, and leaves %s", dump(got), ok, dump(node(0, 0, 0, kids...)))
	}
	list := []impl.Term{variable(1, "b"), variable(1, "a"), variable(9, "behind")}
	if got, ok := impl.AllOf(list[:2]); !ok || textOf(got) != "(and a:1 b:1)" || dump(list[2]) != dump(variable(9, "behind")) || list[0].Name != "b" {
		t.Errorf("AllOf = %s, %v, and leaves %s", dump(got), ok, dump(node(0, 0, 0, list...)))
	}
}

func TestP11TermsAreNew(t *testing.T) {
	terms := someTerms(1500)
	for i, plain := range terms {
		u, v := roomy(plain), roomy(terms[(i*11+1)%len(terms)])
		for _, use := range termUses() {
			l := valuesOf(u, nil)
			if len(l) > 0 {
				l = l[:1]
			}
			if got, ok := use.call(u, v, l); ok {
				mustBeNew(t, use.name+" of "+textOf(u), regionsOf(got), slices.Concat(regionsOf(u), regionsOf(v), regionOf(l)))
			}
		}
	}
}

// TestP11TermsThatShareKids gives terms some of whose nodes have the same list of kids.
func TestP11TermsThatShareKids(t *testing.T) {
	a := variable(3, "a3")
	inner := node(impl.OpMul, 3, 0, a, a)
	u := node(impl.OpAdd, 3, 0, inner, node(impl.OpDiv, 3, 0, inner, inner))
	flag := node(impl.OpLess, 1, 0, inner, u)
	terms := []impl.Term{inner, u, flag, node(impl.OpIf, 3, 0, flag, u, inner), {Op: impl.OpRem, W: 3, Kids: inner.Kids}, {Op: impl.OpBelow, W: 1, Kids: u.Kids}, node(impl.OpNot, 1, 0, flag)}
	for _, x := range terms {
		for _, y := range terms {
			for _, use := range termUses() {
				if got, ok := use.call(x, y, []impl.Value{{Name: "b", W: 1, N: 1}}); ok {
					mustBeNew(t, use.name+" of "+textOf(x), regionsOf(got), regionsOf(x, y))
				}
			}
		}
	}
}

func TestP11ListsOfTermsAreNew(t *testing.T) {
	u := read(t, "(join a:3 b:2)")
	vars, table := impl.VarsOf(u), impl.TableOf(u)
	mustBeNew(t, "VarsOf and TableOf", slices.Concat(regionOf(vars), regionOf(table), regionOf(impl.VarsOf(u)), regionOf(impl.TableOf(u))), regionsOf(u))
	spoil(vars, impl.Value{Name: "x", W: 9, N: 9})
	spoil(table, 99)
	if got := impl.VarsOf(u); !slices.Equal(got, []impl.Value{{Name: "a", W: 3}, {Name: "b", W: 2}}) {
		t.Errorf("VarsOf = %v", got)
	}
	if got := impl.TableOf(u); len(got) != 32 || got[31] != 31 {
		t.Errorf("TableOf = %v", got)
	}
}

func TestP11NilAndEmptyOfTerms(t *testing.T) {
	empty := func(u impl.Term) impl.Term { u.Kids = []impl.Term{}; return u }
	a, one := variable(3, "a"), constant(3, 1)
	u, v := node(impl.OpAdd, 3, 0, empty(a), empty(one)), node(impl.OpAdd, 3, 0, a, one)
	if !impl.TermOk(u) || impl.CompareTerms(u, v) != 0 || impl.FormatTerm(u) != impl.FormatTerm(v) || !alike(impl.Simplify(u), impl.Simplify(v)) {
		t.Error("a term with empty lists differs from one with nil")
	}
	if !impl.IsSimple(empty(a)) || !impl.IsSimple(empty(one)) {
		t.Error("IsSimple of a leaf with an empty list = false")
	}
	if got, ok := impl.MakeTerm(impl.OpSub, 3, 0, []impl.Term{empty(a), a}); !ok || !alike(got, constant(3, 0)) {
		t.Errorf("MakeTerm of equal variables = %s, %v", dump(got), ok)
	}
	if got, ok := impl.MakeTerm(impl.OpConst, 3, 5, []impl.Term{}); !ok || !alike(got, constant(3, 5)) {
		t.Errorf("MakeTerm of a constant with the empty list = %s, %v", dump(got), ok)
	}
	if n, ok := impl.EvalTerm(one, []impl.Value{}); n != 1 || !ok {
		t.Errorf("EvalTerm with the empty list = %d, %v", n, ok)
	}
}

func TestP11NoPanicOfTerms(t *testing.T) {
	bad := badTerms()
	lists := append(badValues(), nil, []impl.Value{{Name: "a", W: 3, N: 1}})
	for i, u := range bad {
		v, l := bad[(i*3+1)%len(bad)], lists[i%len(lists)]
		mustNot(t, "a function of terms that are not valid", func() {
			useAll(u, v, l)
			for _, use := range termUses() {
				if got, ok := use.call(u, v, l); ok != impl.TermOk(got) || !ok && !isZero(got) {
					t.Errorf("%s of %.200s = %.200s, %v", use.name, dump(u), dump(got), ok)
				}
			}
		})
	}
	kids := []impl.Term{variable(3, "a"), {}, constant(3, 1), node(impl.OpNot, 3, 0)}
	for _, op := range append(slices.Clone(oddInts), 5, 6, 9, 10, 11, 12, 13, 18, 19, 20, 21, 22, 23) {
		for _, w := range oddInts {
			for _, n := range oddInts {
				mustNot(t, "MakeTerm", func() {
					for k := range 5 {
						if got, ok := impl.MakeTerm(op, w, n, kids[:k]); ok != impl.TermOk(got) || !ok && !isZero(got) {
							t.Errorf("MakeTerm(%d, %d, %d) of %d kids = %s, %v", op, w, n, k, dump(got), ok)
						}
					}
				})
			}
		}
	}
	for _, s := range oddTexts() {
		mustNot(t, "a function of a name", func() {
			impl.VarTerm(3, s)
			impl.PutTerm(variable(3, "a"), s, constant(3, 1))
			impl.EvalTerm(variable(3, "a"), []impl.Value{{Name: s, W: 3}})
			impl.TermOk(variable(3, s))
			impl.CompareTerms(variable(3, s), variable(3, "a"))
		})
	}
}
