package tests

import (
	"math"
	"slices"
	"strings"
	"testing"

	"loop.example/g03219/impl"
)

// wide returns a program with words of w bits.
func wide(w int) impl.Program {
	return impl.Program{W: w, Mem: 1, In: 1, Code: []impl.Ins{ins(impl.InsHalt, 0, 0, 0)}}
}

func TestP9FactOk(t *testing.T) {
	for _, c := range []struct {
		w    int
		f    impl.Fact
		want bool
	}{
		{3, fact(1, 0, 0, 0), true}, {3, fact(1, 3, 0, 7), true}, {3, fact(1, 3, 0, 8), false}, {3, fact(1, 4, 0, 7), false}, {3, fact(1, -1, 0, 7), false}, {3, fact(1, 0, 0, -1), false}, {3, fact(1, 0, 1, 0), false}, {8, fact(1, 2, 0, 255), true}, {8, fact(1, 2, 0, 256), false},
		{3, fact(2, 0, 1, 0), true}, {3, fact(2, 0, 3, 0), true}, {3, fact(2, 2, 3, 0), true}, {3, fact(2, 1, 0, 0), false}, {3, fact(2, 2, 2, 0), false}, {3, fact(2, 0, 0, 0), false}, {3, fact(2, 2, 4, 0), false}, {3, fact(2, -1, 0, 0), false}, {3, fact(2, 0, 1, 1), false}, {3, fact(2, 0, 1, -1), false},
		// The greatest word is none that is said by FactMost.
		{3, fact(3, 0, 0, 7), false}, {3, fact(3, 0, 0, 6), true}, {3, fact(3, 3, 0, 0), true}, {2, fact(3, 1, 0, 3), false}, {2, fact(3, 1, 0, 2), true}, {8, fact(3, 1, 0, 255), false}, {8, fact(3, 1, 0, 254), true}, {3, fact(3, 0, 0, -1), false}, {3, fact(3, 0, 1, 5), false},
		{3, fact(4, 0, 0, 0), true}, {3, fact(4, 3, 2, 1), true}, {3, fact(4, 3, 3, 1), false}, {3, fact(4, 3, -1, 1), false}, {3, fact(4, 0, 0, 2), false}, {3, fact(4, 0, 0, -1), false}, {8, fact(4, 3, 7, 0), true}, {8, fact(4, 3, 8, 0), false}, {2, fact(4, 0, 1, 1), true}, {2, fact(4, 0, 2, 1), false}, {3, fact(4, 4, 0, 0), false},
		{3, fact(5, 0, 1, 0), true}, {3, fact(5, 2, 3, 7), true}, {3, fact(5, 2, 3, 8), false}, {3, fact(5, 3, 2, 7), false}, {3, fact(5, 1, 1, 7), false}, {3, fact(5, 3, 4, 7), false}, {3, fact(5, 0, 1, -1), false},
		{3, fact(6, 0, 1, 0), true}, {3, fact(6, 1, 0, 0), true}, {3, fact(6, 3, 0, 0), true}, {3, fact(6, 1, 1, 0), false}, {3, fact(6, 0, 0, 0), false}, {3, fact(6, 0, 4, 0), false}, {3, fact(6, 0, -1, 0), false}, {3, fact(6, 1, 2, 1), false},
		{3, fact(0, 0, 0, 0), false}, {3, fact(7, 0, 1, 0), false}, {3, fact(-1, 0, 0, 0), false}, {3, fact(0, 0, 1, 0), false}, {3, fact(7, 0, 0, 0), false},
	} {
		if got := impl.FactOk(wide(c.w), c.f); got != c.want {
			t.Errorf("FactOk of %v with words of %d bits = %v", c.f, c.w, got)
		}
	}
}

// TestP9FactOkOfAll has every fact, and every other number near to one.
func TestP9FactOkOfAll(t *testing.T) {
	for _, w := range []int{2, 3, 8} {
		facts := map[impl.Fact]bool{}
		for _, f := range allFacts(w) {
			facts[f] = true
		}
		found := 0
		for kind := -1; kind <= 8; kind++ {
			for a := -1; a <= 5; a++ {
				for b := -1; b <= w+1; b++ {
					for n := -1; n <= power(w)+1; n++ {
						f := fact(kind, a, b, n)
						if got := impl.FactOk(wide(w), f); got != facts[f] {
							t.Errorf("FactOk of %v with words of %d bits = %v", f, w, got)
						}
						found += truth(facts[f])
					}
				}
			}
		}
		if found != len(facts) {
			t.Errorf("found %d of %d facts with words of %d bits", found, len(facts), w)
		}
	}
}

func TestP9FactsInvalid(t *testing.T) {
	mustBeNone := func(p impl.Program, f impl.Fact) {
		t.Helper()
		if impl.FactOk(p, f) || impl.FactHolds(p, f, []int{0, 0, 0, 0}) || impl.FormatFact(p, f) != "" {
			t.Errorf("%v is a fact of %.300s", f, dumpProgram(p))
		}
		for _, w := range []int{3, p.W} {
			if u, ok := impl.FactTerm(p, f, repeatedTerm(constant(w, 0), 4)); ok || !isZero(u) {
				t.Errorf("FactTerm of %v = %s, %v", f, textOf(u), ok)
			}
		}
	}
	for _, bad := range badPrograms() {
		for _, f := range []impl.Fact{fact(1, 0, 0, 0), fact(2, 0, 1, 0), fact(3, 0, 0, 0), fact(4, 0, 0, 0), fact(5, 0, 1, 0), fact(6, 0, 1, 0)} {
			mustBeNone(bad, f)
		}
	}
	for _, w := range []int{2, 3, 8} {
		for _, f := range badFacts(w) {
			mustBeNone(wide(w), f)
		}
	}
}

func TestP9FactHolds(t *testing.T) {
	for _, c := range []struct {
		text   string
		yes    [][]int
		others [][]int
	}{
		{"r1 is 5", [][]int{{0, 5, 0, 0}, {5, 5, 5, 5}}, [][]int{{5, 4, 5, 5}, {5, 0, 0, 0}}}, {"r0 is 0", [][]int{{0, 1, 1, 1}}, [][]int{{1, 0, 0, 0}}},
		{"r1 same r2", [][]int{{0, 5, 5, 1}, {1, 0, 0, 1}}, [][]int{{5, 5, 4, 4}, {0, 1, 0, 0}}}, {"r0 same r3", [][]int{{2, 5, 4, 2}}, [][]int{{2, 2, 2, 3}, {7, 7, 7, 0}}},
		{"r3 most 5", [][]int{{7, 7, 7, 5}, {7, 7, 7, 4}, {7, 7, 7, 0}}, [][]int{{0, 0, 0, 6}, {0, 0, 0, 7}}}, {"r0 most 6", [][]int{{6, 7, 7, 7}}, [][]int{{7, 0, 0, 0}}}, {"r0 most 0", [][]int{{0, 7, 7, 7}}, [][]int{{1, 0, 0, 0}, {7, 0, 0, 0}}},
		{"r2 bit 0 1", [][]int{{0, 0, 1, 0}, {0, 0, 7, 0}, {0, 0, 5, 0}}, [][]int{{1, 1, 0, 1}, {1, 1, 6, 1}}}, {"r2 bit 0 0", [][]int{{1, 1, 0, 1}, {1, 1, 6, 1}}, [][]int{{0, 0, 1, 0}}}, {"r1 bit 2 1", [][]int{{0, 4, 0, 0}, {0, 7, 0, 0}}, [][]int{{4, 3, 4, 4}}}, {"r1 bit 1 0", [][]int{{2, 5, 2, 2}}, [][]int{{0, 2, 0, 0}, {5, 6, 0, 0}}},
		// The sum may go beyond the word.
		{"r1 sum r2 5", [][]int{{0, 2, 3, 0}, {0, 0, 5, 0}, {0, 5, 0, 0}, {0, 6, 7, 0}, {0, 7, 6, 0}}, [][]int{{2, 2, 2, 3}, {0, 5, 5, 0}, {0, 7, 7, 0}}}, {"r0 sum r3 0", [][]int{{0, 1, 1, 0}, {4, 1, 1, 4}, {1, 0, 0, 7}}, [][]int{{7, 0, 0, 7}, {0, 0, 0, 1}}}, {"r2 sum r3 7", [][]int{{0, 0, 7, 0}, {0, 0, 3, 4}}, [][]int{{0, 0, 7, 7}}},
		{"r1 order r2", [][]int{{0, 1, 2, 0}, {0, 2, 2, 0}, {7, 0, 7, 0}, {0, 0, 0, 0}}, [][]int{{0, 2, 1, 0}, {0, 7, 0, 7}}}, {"r2 order r1", [][]int{{0, 2, 1, 0}, {0, 2, 2, 0}}, [][]int{{0, 1, 2, 0}, {7, 3, 4, 0}}}, {"r3 order r0", [][]int{{4, 0, 0, 3}}, [][]int{{3, 7, 7, 4}}},
	} {
		f := readFacts(t, 3, c.text)[0]
		for _, regs := range c.yes {
			if !impl.FactHolds(wide(3), f, regs) {
				t.Errorf("%s does not hold for %v", c.text, regs)
			}
		}
		for _, regs := range c.others {
			if impl.FactHolds(wide(3), f, regs) {
				t.Errorf("%s holds for %v", c.text, regs)
			}
		}
	}
}

// allRegisters are all lists of four words of w bits.
func allRegisters(w int) [][]int {
	return allWords(impl.Program{W: w, In: 4})
}

func TestP9FactHoldsOfAll(t *testing.T) {
	p := wide(2)
	for _, f := range allFacts(2) {
		holds := 0
		for _, regs := range allRegisters(2) {
			want := slowTrue(2, f, regs)
			if got := impl.FactHolds(p, f, regs); got != want {
				t.Errorf("FactHolds(%s, %v) = %v", textOfFact(f), regs, got)
			}
			holds += truth(want)
		}
		if holds == 0 || holds == 256 {
			t.Errorf("%s holds for %d of 256", textOfFact(f), holds)
		}
	}
	m := maker{state: 431}
	for _, w := range []int{3, 5, 8} {
		for _, f := range allFacts(w) {
			regs := m.wordsBelow(4, 4, power(w))
			switch m.below(4) {
			case 0:
				regs[f.A] = f.N
			case 1:
				regs[(f.A+1)%4] = regs[f.A]
			case 2:
				regs[f.A] = m.below(f.N + 1)
			}
			if got := impl.FactHolds(wide(w), f, regs); got != slowTrue(w, f, regs) {
				t.Errorf("FactHolds(%s, %v) with words of %d bits = %v", textOfFact(f), regs, w, got)
			}
		}
	}
}

func TestP9FactHoldsInvalid(t *testing.T) {
	for _, w := range []int{2, 3, 8} {
		for _, f := range []impl.Fact{fact(1, 0, 0, 0), fact(2, 0, 1, 0), fact(3, 3, 0, 1), fact(4, 1, 0, 0), fact(5, 0, 1, 0), fact(6, 0, 3, 0)} {
			if !impl.FactHolds(wide(w), f, []int{0, 0, 0, 0}) {
				t.Errorf("%s does not hold for zeros", textOfFact(f))
			}
			for _, regs := range badLists(w, 4) {
				if impl.FactHolds(wide(w), f, regs) {
					t.Errorf("%s holds for %.100s", textOfFact(f), textOfInts(regs))
				}
			}
		}
	}
}

func TestP9FactTerm(t *testing.T) {
	plain := "r0:3, r1:3, r2:3, r3:3"
	odd := "3:2, (add 3:1 a:3), 3:6, (grow 3 b:2)"
	for _, c := range []struct{ fact, regs, want string }{
		{"r1 is 5", plain, "(eq 3:5 r1:3)"}, {"r0 is 0", plain, "(eq 3:0 r0:3)"}, {"r1 same r2", plain, "(eq r1:3 r2:3)"}, {"r0 same r3", plain, "(eq r0:3 r3:3)"}, {"r2 most 5", plain, "(not (less 3:5 r2:3))"}, {"r2 most 0", plain, "(not (less 3:0 r2:3))"}, {"r3 most 6", plain, "(not (less 3:6 r3:3))"},
		{"r1 bit 0 1", plain, "(cut 0 1 r1:3)"}, {"r1 bit 2 1", plain, "(cut 2 1 r1:3)"}, {"r1 bit 0 0", plain, "(not (cut 0 1 r1:3))"}, {"r3 bit 1 0", plain, "(not (cut 1 1 r3:3))"}, {"r1 sum r2 5", plain, "(eq 3:5 (add r1:3 r2:3))"}, {"r0 sum r3 0", plain, "(eq 3:0 (add r0:3 r3:3))"}, {"r1 order r2", plain, "(not (less r2:3 r1:3))"}, {"r2 order r1", plain, "(not (less r1:3 r2:3))"},
		// Constants.
		{"r0 is 2", odd, "1:1"}, {"r0 is 3", odd, "1:0"}, {"r2 most 6", odd, "1:1"}, {"r2 most 5", odd, "1:0"}, {"r0 most 1", odd, "1:0"}, {"r0 bit 1 1", odd, "1:1"}, {"r0 bit 1 0", odd, "1:0"}, {"r2 bit 0 0", odd, "1:1"}, {"r0 sum r2 0", odd, "1:1"}, {"r0 sum r2 7", odd, "1:0"}, {"r0 order r2", odd, "1:1"}, {"r2 order r0", odd, "1:0"}, {"r0 same r2", odd, "1:0"}, {"r0 same r2", "3:6, a:3, 3:6, a:3", "1:1"},
		// Kids change places, and what is equal becomes a constant.
		{"r0 same r1", "b:3, a:3, a:3, 3:4", "(eq a:3 b:3)"}, {"r1 same r2", "b:3, a:3, a:3, 3:4", "1:1"}, {"r1 same r3", "b:3, a:3, a:3, 3:4", "(eq 3:4 a:3)"}, {"r1 order r2", "b:3, a:3, a:3, 3:4", "1:1"}, {"r0 sum r1 2", "b:3, a:3, a:3, 3:4", "(eq 3:2 (add a:3 b:3))"}, {"r0 order r3", "b:3, a:3, a:3, 3:0", "(not (less 3:0 b:3))"}, {"r3 order r0", "b:3, a:3, a:3, 3:0", "1:1"},
		{"r1 sum r2 5", odd, "(eq 3:5 (add 3:7 a:3))"}, {"r0 sum r1 5", odd, "(eq 3:5 (add 3:3 a:3))"}, {"r3 bit 1 1", odd, "(cut 1 1 b:2)"}, {"r3 bit 2 1", odd, "(cut 2 1 (grow 3 b:2))"}, {"r1 bit 2 0", "a:3, (join a:1 b:2), a:3, a:3", "(not a:1)"}, {"r1 is 1", odd, "(eq 3:1 (add 3:1 a:3))"}, {"r3 most 3", odd, "(not (less 3:3 (grow 3 b:2)))"}, {"r1 order r3", odd, "(not (less (grow 3 b:2) (add 3:1 a:3)))"},
		// Terms that are no simple ones stay as they are, inside.
		{"r0 is 1", "(add a:3 3:0), a:3, a:3, a:3", "(eq 3:1 (add a:3 3:0))"}, {"r0 most 1", "(not (not a:3)), a:3, a:3, a:3", "(not (less 3:1 (not (not a:3))))"},
	} {
		got, ok := impl.FactTerm(wide(3), readFacts(t, 3, c.fact)[0], readTerms(t, c.regs))
		if !ok || textOf(got) != c.want {
			t.Errorf("FactTerm of %s and %s = %s, %v, want %s", c.fact, c.regs, textOf(got), ok, c.want)
		}
	}
	// With the greatest words, and the highest bits.
	regs := repeatedTerm(variable(8, "a"), 4)
	for text, want := range map[string]string{"r3 is 255": "(eq 8:255 a:8)", "r3 most 254": "(not (less 8:254 a:8))", "r3 bit 7 1": "(cut 7 1 a:8)", "r0 sum r3 255": "(eq 8:255 (add a:8 a:8))"} {
		if got, ok := impl.FactTerm(wide(8), readFacts(t, 8, text)[0], regs); !ok || textOf(got) != want {
			t.Errorf("FactTerm of %s = %s, %v, want %s", text, textOf(got), ok, want)
		}
	}
}

func mustHaveNoFactTerm(t *testing.T, p impl.Program, f impl.Fact, regs []impl.Term) {
	t.Helper()
	if got, ok := impl.FactTerm(p, f, regs); ok || !isZero(got) {
		t.Errorf("FactTerm of %v and %.300s = %s, %v", f, dump(impl.Term{Kids: regs}), textOf(got), ok)
	}
}

// TestP9FactTermOfBigTerms has registers with just enough room, and with one node more.
func TestP9FactTermOfBigTerms(t *testing.T) {
	p := wide(3)
	for _, c := range []struct {
		text string
		room int
	}{
		{"r0 is 1", 238}, {"r0 most 1", 237}, {"r0 bit 0 1", 237}, {"r0 bit 1 0", 237}, {"r0 same r3", 238}, {"r0 sum r3 1", 236}, {"r0 order r3", 237}, {"r3 order r0", 237},
		// The other register may have any size.
		{"r3 is 1", 240}, {"r1 same r3", 240}, {"r3 bit 0 1", 240}, {"r1 sum r2 1", 240},
	} {
		f := readFacts(t, 3, c.text)[0]
		for n := 230; n <= 240; n++ {
			regs := []impl.Term{sized(3, n), variable(3, "b"), constant(3, 4), variable(3, "b")}
			var want impl.Term
			fine := caught(func() { want = slowFactTerm(3, f, regs) })
			got, ok := impl.FactTerm(p, f, regs)
			if ok != (n <= c.room) || ok != fine || ok && !alike(got, want) {
				t.Errorf("FactTerm of %s and %d nodes = %s, %v", c.text, n, textOf(got), ok)
			}
			if !ok {
				mustHaveNoFactTerm(t, p, f, regs)
			}
		}
	}
	// What becomes simpler needs no room; what is a constant then needs it nevertheless.
	same := []impl.Term{sized(3, 119), sized(3, 119), sized(3, 120), sized(3, 120)}
	for text, want := range map[string]string{"r0 same r1": "1:1", "r0 order r1": "1:1", "r2 same r3": "", "r2 order r3": "", "r0 same r2": textOf(node(impl.OpEq, 1, 0, sized(3, 119), sized(3, 120)))} {
		f := readFacts(t, 3, text)[0]
		if want == "" {
			mustHaveNoFactTerm(t, p, f, same)
			continue
		}
		if got, ok := impl.FactTerm(p, f, same); !ok || textOf(got) != want {
			t.Errorf("FactTerm of %s = %s, %v", text, textOf(got), ok)
		}
	}
}

func TestP9FactTermFails(t *testing.T) {
	p := wide(3)
	f := fact(2, 0, 1, 0)
	// A name has another width in the other register.
	clash := []impl.Term{node(impl.OpGrow, 3, 0, variable(2, "a")), variable(3, "a"), variable(3, "c"), variable(3, "c")}
	for _, text := range []string{"r0 same r1", "r0 sum r1 2", "r0 order r1", "r1 order r0"} {
		mustHaveNoFactTerm(t, p, readFacts(t, 3, text)[0], clash)
	}
	for text, want := range map[string]string{"r0 is 1": "(eq 3:1 (grow 3 a:2))", "r1 order r2": "(not (less c:3 a:3))", "r0 same r2": "(eq (grow 3 a:2) c:3)"} {
		if got, ok := impl.FactTerm(p, readFacts(t, 3, text)[0], clash); !ok || textOf(got) != want {
			t.Errorf("FactTerm of %s = %s, %v, want %s", text, textOf(got), ok, want)
		}
	}
	// Registers of another number, width, or none at all; also those of which the fact says nothing.
	zero := constant(3, 0)
	for _, n := range []int{0, 1, 3, 5, 1000} {
		mustHaveNoFactTerm(t, p, f, repeatedTerm(zero, n))
	}
	odd := append(badTerms(), constant(2, 0), constant(4, 0), constant(1, 1), variable(1, "a"), variable(16, "a"))
	for _, u := range odd {
		for k := range 4 {
			regs := repeatedTerm(zero, 4)
			regs[k] = u
			if u.W != 3 || !impl.TermOk(u) {
				for _, f := range []impl.Fact{fact(1, k, 0, 0), fact(2, 0, 1, 0), fact(3, 3-k, 0, 0), fact(4, 0, 0, 0), fact(5, 2, 3, 1), fact(6, 3, 1, 0)} {
					mustHaveNoFactTerm(t, p, f, regs)
				}
			}
		}
	}
}

// TestP9FactTermSaysTheFact compares with the document's text, and what the term says with the fact, for all values of the variables.
func TestP9FactTermSaysTheFact(t *testing.T) {
	m := maker{state: 433}
	said := map[int]int{}
	for range 600 {
		w := 2 + m.below(2)
		p := impl.Program{W: w, Mem: 1, In: 2, Code: wide(w).Code}
		regs := m.termsOver(p, w, 4)
		for _, f := range m.facts(w, 12) {
			var want impl.Term
			fine := caught(func() { want = slowFactTerm(w, f, regs) })
			got, ok := impl.FactTerm(p, f, regs)
			if ok != fine || !alike(got, want) || !impl.TermOk(got) && ok {
				t.Errorf("FactTerm of %s and %s = %s, %v, want %s", textOfFact(f), textOfTerms(regs), textOf(got), ok, textOf(want))
				continue
			}
			for _, in := range allWords(p) {
				var words []int
				for _, u := range regs {
					words = append(words, wordOf(u, wordsByName(in)))
				}
				is := wordOf(got, wordsByName(in)) == 1
				if is != impl.FactHolds(p, f, words) {
					t.Errorf("FactTerm of %s and %s = %s, which is %v for %v", textOfFact(f), textOfTerms(regs), textOf(got), is, in)
				}
				said[2*f.Kind+truth(is)]++
			}
		}
	}
	for k := 2; k <= 13; k++ {
		if said[k] < 500 {
			t.Errorf("facts are true and false: %v", said)
		}
	}
}

func TestP9FormatFact(t *testing.T) {
	for _, c := range []struct {
		f    impl.Fact
		want string
	}{
		{fact(1, 1, 0, 5), "r1 is 5"}, {fact(1, 0, 0, 0), "r0 is 0"}, {fact(1, 3, 0, 255), "r3 is 255"}, {fact(2, 1, 2, 0), "r1 same r2"}, {fact(2, 0, 3, 0), "r0 same r3"}, {fact(3, 1, 0, 5), "r1 most 5"}, {fact(3, 2, 0, 254), "r2 most 254"}, {fact(3, 2, 0, 0), "r2 most 0"},
		{fact(4, 1, 0, 1), "r1 bit 0 1"}, {fact(4, 0, 7, 0), "r0 bit 7 0"}, {fact(5, 1, 2, 5), "r1 sum r2 5"}, {fact(5, 0, 3, 255), "r0 sum r3 255"}, {fact(6, 1, 2, 0), "r1 order r2"}, {fact(6, 3, 0, 0), "r3 order r0"},
	} {
		if got := impl.FormatFact(wide(8), c.f); got != c.want {
			t.Errorf("FormatFact of %v = %q, want %q", c.f, got, c.want)
		}
		if f, ok := impl.ParseFact(wide(8), c.want); !ok || f != c.f {
			t.Errorf("ParseFact of %q = %v, %v", c.want, f, ok)
		}
	}
}

func TestP9FactsAreReadFromTheirTexts(t *testing.T) {
	for w := 2; w <= 8; w++ {
		p := wide(w)
		for _, f := range allFacts(w) {
			s := impl.FormatFact(p, f)
			if s != textOfFact(f) {
				t.Errorf("FormatFact of %v = %q, want %q", f, s, textOfFact(f))
			}
			if got, ok := impl.ParseFact(p, s); !ok || got != f {
				t.Errorf("ParseFact of %q with words of %d bits = %v, %v", s, w, got, ok)
			}
		}
	}
}

func mustNotParseFact(t *testing.T, p impl.Program, s string) {
	t.Helper()
	if f, ok := impl.ParseFact(p, s); ok || f != (impl.Fact{}) {
		t.Errorf("ParseFact(%.300s, %q) = %v, %v", dumpProgram(p), s, f, ok)
	}
}

func TestP9ParseFactFails(t *testing.T) {
	for _, s := range []string{
		"", " ", "r1", "r1 ", "is", "r1 is", "r1 is ", "r1 is 5 ", " r1 is 5", "r1  is 5", "r1 is  5", "r1 is 5\n", "r1\tis 5", "r1 is 05", "r1 is +5", "r1 is -1", "r1 is -0", "r1 is 8", "r1 is 5 0", "r1 is 5 5", "r1 is r5", "r1 is five", "R1 is 5", "r1 Is 5", "r1 IS 5", "r01 is 5", "r-1 is 5", "r4 is 5", "r is 5", "1 is 5", "rr1 is 5", "m1 is 5", "r1 5", "r1 is is 5", "is r1 5",
		"r1 same", "r1 same ", "r1 same r1", "r2 same r1", "r1 same r4", "r1 same 2", "r1 same rr2", "r1 same r02", "r1 same r2 0", "r1 same r2 ", "r1 same R2", "1 same 2",
		"r1 most", "r1 most 7", "r1 most 8", "r1 most -1", "r1 most 06", "r1 most 0 6", "r1 most 6 0", "r1 most r6",
		"r1 bit", "r1 bit 0", "r1 bit 0 2", "r1 bit 3 1", "r1 bit -1 1", "r1 bit 0 -1", "r1 bit 0 1 0", "r1 bit 00 1", "r1 bit 0 01", "r1 bit r0 1", "r1 bit 0 r1", "r1 bit 01", "r1 bit0 1", "r1 bit 0  1", "r1 bit 1",
		"r1 sum", "r1 sum r2", "r1 sum r2 ", "r1 sum r2 8", "r1 sum r2 -1", "r1 sum r1 5", "r2 sum r1 5", "r1 sum r4 5", "r1 sum 2 5", "r1 sum r2 r5", "r1 sum r2 5 5", "r1 sum 5 r2", "r1 sum r2 05",
		"r1 order", "r1 order r1", "r1 order r4", "r1 order 2", "r1 order r2 0", "r1 order r2 r3", "r4 order r2", "order", "r1 order r2\n", "r1 order r2\x00",
		"r1 is 18446744073709551621", "r1 is 4294967301", "r4294967297 is 5", "r18446744073709551617 is 5", "r1 below 5", "r1 less r2", "r1 eq 5", "r1  5", "r1  r2", "r0 ",
	} {
		mustNotParseFact(t, wide(3), s)
	}
	for _, bad := range badPrograms() {
		for _, s := range []string{"", "r1 is 0", "r1 same r2", "r1 most 0", "r1 bit 0 0", "r1 sum r2 0", "r1 order r2", "r0 is 0", " "} {
			mustNotParseFact(t, bad, s)
		}
	}
}

// TestP9ParseFactOfAny has texts that differ from those of facts by a byte, and texts of arbitrary bytes.
func TestP9ParseFactOfAny(t *testing.T) {
	texts := oddTexts()
	for _, s := range []string{"r1 is 5", "r1 same r2", "r0 most 6", "r3 bit 2 1", "r0 sum r3 7", "r3 order r0"} {
		texts = append(texts, almostTexts(s, "0123456789r -+I\n\x00")...)
		for _, other := range oddTexts()[:60] {
			texts = append(texts, s+other, other+s, strings.Replace(s, " ", " "+other, 1))
		}
	}
	found := 0
	for _, w := range []int{2, 3, 8} {
		facts := factsByText(w)
		for _, s := range texts {
			want, fine := facts[s]
			if got, ok := impl.ParseFact(wide(w), s); ok != fine || got != want {
				t.Errorf("ParseFact of %q with words of %d bits = %v, %v", s, w, got, ok)
			}
			found += truth(fine)
		}
	}
	if found < 100 {
		t.Errorf("only %d texts are those of facts", found)
	}
}

// stateWith returns a state of wide(w) with these registers.
func stateWith(regs ...int) impl.State {
	return impl.State{Regs: regs, Mem: []int{0}}
}

func TestP9CandidateFacts(t *testing.T) {
	for _, c := range []struct {
		w    int
		l    []impl.State
		want string
	}{
		{2, nil, ""},
		{2, []impl.State{stateWith(0, 1, 2, 3)}, "r0 is 0, r1 is 1, r2 is 2, r3 is 3, r0 most 0, r1 most 1, r2 most 2, r0 bit 0 0, r0 bit 1 0, r1 bit 0 1, r1 bit 1 0, r2 bit 0 0, r2 bit 1 1, r3 bit 0 1, r3 bit 1 1, " +
			"r0 sum r1 1, r0 sum r2 2, r0 sum r3 3, r1 sum r2 3, r1 sum r3 0, r2 sum r3 1, r0 order r1, r0 order r2, r0 order r3, r1 order r2, r1 order r3, r2 order r3"},
		{2, []impl.State{stateWith(2, 2, 0, 2)}, "r0 is 2, r1 is 2, r2 is 0, r3 is 2, r0 same r1, r0 same r3, r1 same r3, r0 most 2, r1 most 2, r2 most 0, r3 most 2, r0 bit 0 0, r0 bit 1 1, r1 bit 0 0, r1 bit 1 1, r2 bit 0 0, r2 bit 1 0, r3 bit 0 0, r3 bit 1 1, " +
			"r0 sum r1 0, r0 sum r2 2, r0 sum r3 0, r1 sum r2 2, r1 sum r3 0, r2 sum r3 2, r0 order r1, r0 order r3, r1 order r0, r1 order r3, r2 order r0, r2 order r1, r2 order r3, r3 order r0, r3 order r1"},
		// The greatest word in a register, in one state of some.
		{2, []impl.State{stateWith(3, 0, 1, 0), stateWith(1, 0, 3, 2)}, "r1 is 0, r1 most 0, r3 most 2, r0 bit 0 1, r1 bit 0 0, r1 bit 1 0, r2 bit 0 1, r3 bit 0 0, r0 sum r2 0, r0 sum r3 3, r2 sum r3 1, r1 order r0, r1 order r2, r1 order r3, r3 order r2"},
		{3, []impl.State{stateWith(7, 7, 7, 7), stateWith(0, 0, 0, 0)}, "r0 same r1, r0 same r2, r0 same r3, r1 same r2, r1 same r3, r2 same r3, r0 order r1, r0 order r2, r0 order r3, r1 order r0, r1 order r2, r1 order r3, r2 order r0, r2 order r1, r2 order r3, r3 order r0, r3 order r1, r3 order r2"},
		// The greatest one is in the middle.
		{3, []impl.State{stateWith(1, 2, 4, 0), stateWith(6, 5, 1, 7), stateWith(2, 3, 4, 0)}, "r0 most 6, r1 most 5, r2 most 4, r2 bit 1 0"},
		{2, []impl.State{stateWith(0, 3, 0, 1), stateWith(1, 2, 1, 0), stateWith(2, 1, 2, 3), stateWith(3, 0, 3, 2)}, "r0 same r2, r0 sum r1 3, r0 sum r3 1, r1 sum r2 3, r2 sum r3 1, r0 order r2, r2 order r0"},
		{2, []impl.State{stateWith(0, 3, 1, 2), stateWith(3, 0, 2, 1), stateWith(1, 1, 3, 0), stateWith(2, 2, 0, 3)}, "r1 sum r3 1, r2 sum r3 3"},
		// Nothing is true of all.
		{2, []impl.State{stateWith(0, 3, 1, 2), stateWith(3, 0, 2, 1), stateWith(1, 1, 3, 0), stateWith(2, 2, 0, 0), stateWith(2, 2, 0, 3), stateWith(3, 1, 2, 3)}, ""},
	} {
		for _, l := range [][]impl.State{c.l, append(slices.Clip(c.l), c.l...)} {
			got := impl.CandidateFacts(wide(c.w), l)
			if textOfFacts(got) != c.want {
				t.Errorf("CandidateFacts of %s = %s, want %s", textOfStates(l), textOfFacts(got), c.want)
			}
			for _, f := range got {
				if !impl.FactOk(wide(c.w), f) {
					t.Errorf("CandidateFacts gives %v", f)
				}
			}
		}
	}
}

// TestP9CandidateFactsOfAny has states whose other parts are different, too.
func TestP9CandidateFactsOfAny(t *testing.T) {
	m := maker{state: 439}
	kinds := map[int]int{}
	for _, p := range somePrograms(700) {
		var l []impl.State
		first := m.machineState(p)
		for range m.below(4) {
			s := m.machineState(p)
			for k := range 4 {
				switch m.below(6) {
				case 0, 1:
					s.Regs[k] = first.Regs[k]
				case 2:
					s.Regs[k] = s.Regs[m.below(4)]
				case 3:
					s.Regs[k] = power(p.W) - 1
				case 4:
					s.Regs[k] = modulo(first.Regs[0]+first.Regs[1]-s.Regs[0], power(p.W))
				}
			}
			l = append(l, s)
		}
		got := impl.CandidateFacts(p, l)
		if want := slowCandidates(p.W, l); !slices.Equal(got, want) {
			t.Errorf("CandidateFacts of %s = %s, want %s", textOfStates(l), textOfFacts(got), textOfFacts(want))
		}
		for _, f := range got {
			kinds[f.Kind]++
		}
	}
	for kind := 1; kind <= 6; kind++ {
		if kinds[kind] < 100 {
			t.Errorf("the kinds of facts are %v", kinds)
		}
	}
}

func TestP9CandidateFactsInvalid(t *testing.T) {
	mustBeEmpty := func(p impl.Program, l ...impl.State) {
		t.Helper()
		if got := impl.CandidateFacts(p, l); len(got) != 0 {
			t.Errorf("CandidateFacts(%.300s, %.300s) = %s", dumpProgram(p), textOfStates(l), textOfFacts(got))
		}
	}
	p := readProgram(t, "3 2 1|in r0|halt")
	good := slowStart(p)
	if len(impl.CandidateFacts(p, []impl.State{good, good})) == 0 {
		t.Error("CandidateFacts of valid states is empty")
	}
	for _, bad := range badStates(p) {
		mustBeEmpty(p, bad)
		mustBeEmpty(p, bad, good, good)
		mustBeEmpty(p, good, bad, good)
		mustBeEmpty(p, good, good, bad)
	}
	for _, bad := range badPrograms() {
		mustBeEmpty(bad)
		mustBeEmpty(bad, good)
		mustBeEmpty(bad, slowStart(impl.Program{W: 3, Mem: max(0, min(bad.Mem, 10))}))
	}
	many := append(slices.Repeat([]impl.State{good}, 10000), impl.State{Pc: math.MaxInt})
	mustBeEmpty(p, many...)
}
