package tests

import (
	"slices"
	"strings"
	"testing"

	"loop.example/g03219/impl"
)

func TestP5CircuitOf(t *testing.T) {
	for _, c := range []struct {
		term, want string
		number     []int
	}{
		// Terms without variables, and inputs from the highest bit on.
		{"5:19", "0", []int{1, 1, -1, -1, 1}}, {"1:0", "0", []int{-1}}, {"(add 4:9 4:9)", "0", []int{-1, 1, -1, -1}}, {"(if 1:0 2:3 2:1)", "0", []int{1, -1}}, {"(div 3:5 3:0)", "0", []int{1, 1, 1}},
		{"a:1", "1", []int{2}}, {"a:3", "3", []int{4, 3, 2}}, {"(eq a:2 a:2)", "2", []int{1}},
		// Variables by their names, each once.
		{"(join a:1 b:2)", "3", []int{4, 3, 2}}, {"(join b:2 a:1)", "3", []int{2, 4, 3}}, {"(join (join b10:1 b2:1) (join b:1 b10:1))", "3", []int{3, 2, 4, 3}},
		{"(not a:2)", "2", []int{-3, -2}}, {"(not (not a:2))", "2", []int{3, 2}}, {"(not 3:1)", "0", []int{-1, 1, 1}},
		{"(neg a:1)", "1", []int{2}}, {"(neg 3:1)", "0", []int{1, 1, 1}},
		{"(add b:1 a:1)", "2|-2 3|2 -3|-4 -5|2 3", []int{-6}}, {"(and a:2 b:2)", "4|3 5|2 4", []int{6, 7}}, {"(less b:1 a:1)", "2|2 3|-2 -3|-4 -5|-2 3|6 -7", []int{8}}, {"(sub a:1 b:1)", "2|2 3|-2 -3|-4 -5|2 -3|6 -7", []int{6}},
		{"(if c:1 a:1 b:1)", "3|2 4|3 -4|-5 -6", []int{-7}}, {"(if c:1 a:2 2:1)", "3|3 4|4 -5|2 4", []int{-6, 7}}, {"(if 1:1 a:2 b:2)", "4", []int{3, 2}},
		{"(cut 1 2 a:4)", "4", []int{4, 3}}, {"(cut 0 4 a:4)", "4", []int{5, 4, 3, 2}}, {"(cut 3 1 a:4)", "4", []int{2}}, {"(cut 1 2 (join a:2 b:2))", "4", []int{4, 3}},
		{"(grow 4 a:2)", "2", []int{3, 2, -1, -1}}, {"(grow 2 a:2)", "2", []int{3, 2}}, {"(stretch 4 a:2)", "2", []int{3, 2, 2, 2}}, {"(stretch 2 a:2)", "2", []int{3, 2}}, {"(stretch 3 2:2)", "0", []int{-1, 1, 1}}, {"(grow 16 a:1)", "1", []int{2, -1, -1, -1, -1, -1, -1, -1, -1, -1, -1, -1, -1, -1, -1, -1}},
		// What is cut out stays as it is where it is widened or joined.
		{"(join (join a:1 (cut 0 1 b:4)) b:4)", "5", []int{6, 5, 4, 3, 6, 2}},
		{"(join (grow 3 (cut 0 1 a:4)) a:4)", "4", []int{5, 4, 3, 2, 5, -1, -1}}, {"(join (stretch 3 (cut 0 2 a:4)) (cut 1 3 a:4))", "4", []int{4, 3, 2, 5, 4, 4}},
		// The kids are made first, in order, and the same gate once.
		{"(xor (and b:1 c:1) (or a:1 b:1))", "3|3 4|-2 -3|5 6|-5 -6|-7 -8", []int{-9}}, {"(or (and a:1 b:1) (and b:1 a:1))", "2|2 3", []int{4}}, {"(if (and a:1 b:1) (and a:1 c:1) (and b:1 c:1))", "3|2 3|2 4|3 4|5 6|-5 7|-8 -9", []int{-10}}, {"(join (and a:1 b:1) (and a:1 c:1))", "3|2 3|2 4", []int{6, 5}},
	} {
		got, number, ok := impl.CircuitOf(read(t, c.term))
		if !ok || textOfCircuit(got) != c.want || !slices.Equal(number, c.number) {
			t.Errorf("CircuitOf(%s) = %s, %v, %v, want %s, %v", c.term, textOfCircuit(got), number, ok, c.want, c.number)
		}
	}
}

func mustHaveNoCircuit(t *testing.T, u impl.Term) {
	t.Helper()
	if got, number, ok := impl.CircuitOf(u); ok || len(number) != 0 || !noCircuit(got) {
		t.Errorf("CircuitOf(%.200s) = %.200s, %v, %v", dump(u), textOfCircuit(got), number, ok)
	}
}

// wideTerms have operations of 16 bits, by which CircuitOf fails.
func wideTerms() []string {
	l := []string{"(neg a:16)", "(neg 16:5)", "(cut 0 4 (neg (join a:4 12:1)))", "(not (neg a:16))", "(if (eq 16:0 a:16) b:2 2:1)", "(if c:1 2:1 (cut 3 2 (neg a:16)))", "(if c:1 (cut 3 2 (neg a:16)) 2:1)", "(join a:4 (cut 0 4 (mul 16:3 16:5)))", "(join (cut 0 4 (mul 16:3 16:5)) a:4)"}
	for _, op := range binaryOps {
		l = append(l, "("+termNames[op]+" a:16 16:1)", "("+termNames[op]+" 16:0 16:65535)")
	}
	return l
}

func TestP5CircuitOfWideWords(t *testing.T) {
	for _, s := range wideTerms() {
		mustHaveNoCircuit(t, read(t, s))
	}
	for _, s := range []string{
		"a:16", "16:65535", "(not a:16)", "(if c:1 a:16 (not a:16))", "(if c:1 16:3 a:16)", "(join a:8 b:8)", "(join a:15 b:1)", "(cut 0 16 a:16)", "(cut 3 4 (not a:16))", "(grow 16 a:16)", "(grow 16 a:3)", "(stretch 16 a:15)", "(stretch 16 a:16)", "(cut 15 1 (if c:1 a:16 (join b:8 8:1)))",
		"(neg a:15)", "(add a:15 15:1)", "(sub a:15 b:15)", "(and a:15 b:15)", "(or a:15 b:15)", "(xor a:15 b:15)", "(eq a:15 b:15)", "(less a:15 b:15)", "(below a:15 b:15)", "(grow 16 (add a:15 b:15))", "(not (join (neg a:15) b:1))", "(shl a:15 15:3)", "(shr 15:32767 a:15)", "(sar a:15 15:20)", "(mul a:15 15:3)", "(div a:15 15:0)", "(rem 15:100 15:7)", "(eq (cut 0 15 a:16) (cut 1 15 a:16))",
	} {
		u := read(t, s)
		want, numbers, fine := slowCircuitOf(u)
		got, number, ok := impl.CircuitOf(u)
		if !ok || !fine || !alikeCircuits(got, want) || !slices.Equal(number, numbers) {
			t.Errorf("CircuitOf(%s) = %s, %v, %v, want %s, %v, %v", s, textOfCircuit(got), number, ok, textOfCircuit(want), numbers, fine)
		}
	}
}

// longTerms have circuits with too many gates.
func longTerms() []string {
	return []string{"(mul a:15 b:15)", "(div a:12 b:12)", "(rem a:15 b:15)", "(cut 0 1 (div a:12 b:12))", "(not (mul a:15 b:15))", "(and 1:0 (eq 12:5 (mul a:12 b:12)))", "(if c:1 (mul a:12 b:12) 12:0)", "(mul (mul a:6 b:6) (add (mul c:6 d:6) (mul a:6 d:6)))"}
}

func TestP5CircuitOfManyBits(t *testing.T) {
	for _, s := range []string{"(join a:15 (cut 0 1 b:15))", "(xor (join a:5 b:10) (join c:5 d:10))", "(if a:1 (join b:13 (cut 0 2 c:16)) 15:9)", "(if b:1 (if c:1 a:13 d:13) 13:2)"} {
		u := read(t, s)
		want, numbers, _ := slowCircuitOf(u)
		got, number, ok := impl.CircuitOf(u)
		if bits := bitsOf(u); !ok || got.Inputs != bits || bits < 28 || !alikeCircuits(got, want) || !slices.Equal(number, numbers) {
			t.Errorf("CircuitOf(%s) = %s, %v, %v, want %s, %v", s, textOfCircuit(got), number, ok, textOfCircuit(want), numbers)
		}
	}
	for _, s := range []string{"(join a:15 (cut 0 1 b:16))", "(if c:1 a:15 b:15)", "(eq (cut 0 1 a:16) (cut 0 1 b:15))", "(if a:1 (join b:14 (cut 0 2 c:16)) 16:9)"} {
		if bits := bitsOf(read(t, s)); bits != 31 {
			t.Fatalf("%s has %d bits", s, bits)
		}
		mustHaveNoCircuit(t, read(t, s))
	}
	// Variables of 512 bits, and a term that has one variable many times.
	var names []string
	for i := range 32 {
		names = append(names, "v"+string(rune('a'+i%26))+string(rune('a'+i/26)))
	}
	many := variable(16, names[0])
	for _, name := range names[1:] {
		many = node(impl.OpIf, 16, 0, variable(1, "c"), variable(16, name), many)
	}
	mustHaveNoCircuit(t, many)
	if got, number, ok := impl.CircuitOf(sized(1, 239)); !ok || got.Inputs != 1 || len(got.Gates) != 0 || len(number) != 1 {
		t.Errorf("CircuitOf of 239 nodes = %s, %v, %v", textOfCircuit(got), number, ok)
	}
	if got, number, ok := impl.CircuitOf(nots(239, variable(16, "a"))); !ok || got.Inputs != 16 || !slices.Equal(number, opposite(inputLinesDown(16))) {
		t.Errorf("CircuitOf of 240 nodes = %s, %v, %v", textOfCircuit(got), number, ok)
	}
}

// inputLinesDown returns the number of the only variable.
func inputLinesDown(w int) []int {
	l := inputLines(0, w)
	slices.Reverse(l)
	return l
}

func TestP5CircuitOfFails(t *testing.T) {
	for _, u := range badTerms() {
		mustHaveNoCircuit(t, u)
	}
	for _, s := range longTerms() {
		mustHaveNoCircuit(t, read(t, s))
	}
}

// roomTerms returns terms with more and more gates, some of which just have room.
func roomTerms() []impl.Term {
	var l []impl.Term
	for _, w := range []int{1, 2, 3} {
		for _, op := range []int{impl.OpAnd, impl.OpXor, impl.OpAdd, impl.OpOr} {
			u := variable(w, "a")
			for i := range 60 {
				other := variable(w, []string{"b", "c", "d"}[i%3])
				if i%2 == 1 {
					u = node(impl.OpNot, w, 0, u)
				}
				if u = node(op, w, 0, other, node(impl.OpIf, w, 0, variable(1, "e"), u, other)); countNodes(u) <= 240 {
					l = append(l, u)
				}
			}
		}
	}
	return l
}

func TestP5CircuitOfTermsThatHaveRoom(t *testing.T) {
	full := map[int]int{}
	for _, u := range roomTerms() {
		want, numbers, fine := slowCircuitOf(u)
		got, number, ok := impl.CircuitOf(u)
		if ok != fine || !alikeCircuits(got, want) || !slices.Equal(number, numbers) {
			t.Errorf("CircuitOf(%s) = %d gates, %v, %v, want %d, %v, %v", textOf(u), len(got.Gates), number, ok, len(want.Gates), numbers, fine)
		}
		full[len(got.Gates)]++
	}
	if full[0] < 10 || full[360] == 0 || len(full) < 50 {
		t.Errorf("the numbers of gates are %v", full)
	}
}

// TestP5CircuitOfAny compares with the words for which terms stand.
func TestP5CircuitOfAny(t *testing.T) {
	m := maker{state: 107}
	made := 0
	for _, u := range someTerms(3000) {
		want, numbers, fine := slowCircuitOf(u)
		got, number, ok := impl.CircuitOf(u)
		if ok != fine || !alikeCircuits(got, want) || !slices.Equal(number, numbers) {
			t.Fatalf("CircuitOf(%s) = %s, %v, %v, want %s, %v, %v", textOf(u), textOfCircuit(got), number, ok, textOfCircuit(want), numbers, fine)
		}
		if !ok {
			continue
		}
		made++
		for range 8 {
			words := m.words(u)
			lines := impl.EvalCircuit(got, inputsFor(u, words))
			if len(lines) != lastLine(got) || wordIn(number, lines) != wordOf(u, words) {
				t.Errorf("CircuitOf(%s) = %s, %v, which is not %d for %v", textOf(u), textOfCircuit(got), number, wordOf(u, words), words)
			}
		}
	}
	if made < 2000 {
		t.Errorf("only %d terms have circuits", made)
	}
}

// inputsFor returns the inputs of the circuit of a term for some words.
func inputsFor(u impl.Term, words map[string]int) []bool {
	var in []bool
	names, widths := widthsByName(u)
	for _, name := range names {
		for k := widths[name] - 1; k >= 0; k-- {
			in = append(in, words[name]/power(k)%2 == 1)
		}
	}
	return in
}

// TestP5CircuitOfAllValues has one operation in each term, and all words of its variables.
func TestP5CircuitOfAllValues(t *testing.T) {
	texts := []string{"(not a:3)", "(neg a:3)", "(neg a:1)", "(if c:1 a:2 b:2)", "(join a:2 b:3)", "(cut 1 2 a:4)", "(cut 3 1 a:4)", "(grow 5 a:3)", "(stretch 5 a:3)", "(stretch 2 a:1)", "(if (less a:2 b:2) (sub b:2 a:2) (neg b:2))"}
	for _, op := range binaryOps {
		for _, s := range []string{"a:1 b:1", "a:2 b:2", "a:3 b:3", "b:3 a:3", "a:4 b:4", "a:3 a:3", "a:3 (not a:3)", "a:3 3:0", "3:5 a:3", "a:5 5:3", "5:27 a:5"} {
			texts = append(texts, "("+termNames[op]+" "+s+")")
		}
	}
	for _, s := range texts {
		u := read(t, s)
		c, number, ok := impl.CircuitOf(u)
		if !ok {
			t.Errorf("CircuitOf(%s) fails", s)
			continue
		}
		for _, l := range allValues(u) {
			words := wordsOf(l)
			if got, want := wordIn(number, impl.EvalCircuit(c, inputsFor(u, words))), wordOf(u, words); got != want {
				t.Errorf("CircuitOf(%s) is %d for %v, want %d", s, got, words, want)
			}
			if !strings.Contains(s, "a:") {
				t.Fatalf("%s has no variable", s)
			}
		}
	}
}
