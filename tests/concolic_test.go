package tests

import (
	"slices"
	"testing"

	"loop.example/g03219/impl"
)

func TestP9ConcolicTests(t *testing.T) {
	for _, c := range []struct {
		program           string
		first             string
		fuel, most, limit int
		want              string
	}{
		{sumProgram, "4", 20, 8, 100, "4, 5"}, {sumProgram, "0", 20, 8, 100, "0, 5"},
		// The first one has the only path.
		{echo3, "5", 20, 1, 0, "5"}, {echo3, "0", 20, 64, 3000, "0"}, {"3 1 1|in r0|out r0|jump 0", "7", 400, 1, 0, "7"}, {"3 1 3|zero r0 1", "1 2 3", 400, 1, 0, "1 2 3"}, {sumProgram, "5", 0, 1, 0, "5"}, {sumProgram, "5", 3, 1, 0, "5"},
		// A condition cannot be turned: the same question is asked again, or the opposite one.
		{sumProgram, "5", 20, 8, 100, "5, 0"}, {"3 1 1|in r0|zero r0 4|zero r0 4|halt", "3", 20, 8, 100, "3, 0"}, {"3 1 1|in r0|set r1 1|or r0 r1|zero r0 5|halt|halt", "3", 20, 8, 100, "3"}, {"3 1 1|in r0|check r0|div r1 r0|halt", "7", 20, 8, 100, "7, 0"}, {"3 1 1|in r0|check r0|div r1 r0|halt", "0", 20, 8, 100, "0, 1"},
		// A loop asks at one place again and again; most of the paths come up again, and are known then.
		{descent, "2", 12, 64, 100, "2, 0, 1, 3, 4"}, {descent, "2", 400, 64, 3000, "2, 0, 1, 3, 4, 5, 6, 7"}, {descent, "7", 400, 64, 3000, "7, 0, 1, 2, 3, 4, 5, 6"}, {descent, "0", 400, 64, 3000, "0, 1, 2, 3, 4, 5, 6, 7"}, {descent, "2", 3, 64, 100, "2, 0"}, {descent, "2", 5, 64, 100, "2, 0"}, {descent, "2", 6, 64, 100, "2, 0, 1"},
		// As many as there may be, and one more.
		{sumProgram, "4", 20, 2, 100, "4, 5"}, {sumProgram, "4", 20, 1, 100, ""}, {descent, "2", 400, 8, 3000, "2, 0, 1, 3, 4, 5, 6, 7"}, {descent, "2", 400, 7, 3000, ""}, {descent, "2", 400, 1, 3000, ""}, {descent, "2", 12, 5, 100, "2, 0, 1, 3, 4"}, {descent, "2", 12, 4, 100, ""},
		// The limit is too small.
		{sumProgram, "4", 20, 8, 0, ""}, {descent, "2", 400, 8, 0, ""}, {"3 1 1|in r0|zero r0 2", "3", 20, 8, 0, ""}, {"3 1 1|in r0|zero r0 2", "3", 20, 8, 3, "3, 0"}, {"3 1 1|in r0|zero r0 2", "0", 20, 8, 0, ""}, {"3 1 1|in r0|zero r0 2", "0", 20, 8, 3, "0, 1"},
		// Inputs that are not looked at are 0 in all tests but the first one.
		{"3 1 3|in r0|in r1|in r2|zero r1 4", "5 6 7", 20, 8, 100, "5 6 7, 0 0 0"}, {"3 1 3|in r0|zero r0 2", "0 6 7", 20, 8, 100, "0 6 7, 1 0 0"}, {"3 1 2|in r0|in r1|less r0 r1|check r0|halt", "6 6", 20, 8, 100, "6 6, 0 1"},
		// All kinds of questions, and one after the other.
		{"3 2 1|in r0|load r1 r0|store r0 r0|halt", "0", 20, 8, 100, "0, 2"}, {"3 2 2|in r0|in r1|store r1 r0|rem r0 r1|halt", "7 7", 20, 8, 100, "7 7, 0 0, 0 1"}, {bits, "0", 400, 64, 100, "0, 1, 2, 4, 8, 3, 5, 9, 6, 10, 12, 7, 11, 13, 14, 15"}, {bits, "5", 400, 64, 100, "5, 0, 3, 1, 13, 2, 4, 8, 7, 11, 9, 6, 10, 12, 15, 14"},
		{orderProgram, "0 0", 20, 8, 100, "0 0, 0 1, 1 0"}, {orderProgram, "3 3", 20, 3, 100, "3 3, 0 1, 1 0"}, {orderProgram, "3 3", 20, 2, 100, ""},
		// The product has too many gates.
		{cubeProgram, "0 0", 20, 8, 3000, ""}, {cubeProgram, "3 5", 4, 8, 3000, "3 5"},
	} {
		p, first := readProgram(t, c.program), readInts(t, c.first)
		got, ok := impl.ConcolicTests(p, first, c.fuel, c.most, c.limit)
		if ok != (c.want != "") || testsText(got) != c.want {
			t.Errorf("ConcolicTests(%q, %s, %d, %d, %d) = %s, %v, want %s", c.program, c.first, c.fuel, c.most, c.limit, testsText(got), ok, c.want)
		}
	}
	// Programs without inputs have one test.
	for _, text := range []string{"2 1 0|halt", "2 1 0|zero r0 0", "2 1 0|jump 1"} {
		for _, none := range [][]int{nil, {}} {
			if got, ok := impl.ConcolicTests(readProgram(t, text), none, 20, 1, 0); !ok || len(got) != 1 || len(got[0]) != 0 {
				t.Errorf("ConcolicTests of %q = %v, %v", text, got, ok)
			}
		}
	}
}

// TestP9ConcolicTestsOfBigTerms has words in conditions for whose opposites there is just enough room, or not.
func TestP9ConcolicTestsOfBigTerms(t *testing.T) {
	for n := 226; n <= 239; n++ {
		word := evenWord(n)
		for _, c := range []struct {
			behind, first string
			// The greatest number of nodes with which it succeeds, and the greatest one with which there is a fork.
			room, most int
			want       string
		}{
			// The word is 0: AllOf of OpNot of a question, which has two nodes more than it.
			{"|zero r0 0", "0 0", 235, 237, "0 0"}, {"|zero r0 0", "3 2", 235, 237, "3 2"},
			// It is another word, of one node more: OpNot of OpNot of the question.
			{"|not r0|zero r0 0", "0 0", 235, 236, "0 0"},
			// A test with a second condition, which is found by turning the first one, and the other way round.
			{"|check r2|zero r0 0", "0 0", 232, 237, "0 0, 0 1"}, {"|check r2|zero r0 0", "3 3", 232, 237, "3 3, 0 0"},
		} {
			p := readProgram(t, "2 1 2|"+word+c.behind)
			got, ok := impl.ConcolicTests(p, readInts(t, c.first), placesIn(word+c.behind), 8, 500)
			want := c.want
			if n > c.room && n <= c.most {
				want = ""
			}
			if ok != (want != "") || testsText(got) != want {
				t.Errorf("ConcolicTests with %d nodes, %q and %s = %s, %v, want %s", n, c.behind, c.first, testsText(got), ok, want)
			}
		}
	}
}

// TestP9ConcolicTestsOfAny compares with the document's text, and checks that each path that a test can take is taken once.
func TestP9ConcolicTestsOfAny(t *testing.T) {
	m := maker{state: 547}
	looping, _ := loopingPrograms(300)
	sizes, failed := map[int]int{}, 0
	for _, p := range slices.Concat(forkingPrograms(700), looping, callingPrograms(300)) {
		first, fuel, most, limit := m.inputs(p), m.below(60), 1+m.below(16), []int{0, 3, 3000, 3000, 3000, 3000}[m.below(6)]
		got, ok := impl.ConcolicTests(p, first, fuel, most, limit)
		want, fine := slowConcolic(p, first, fuel, most, limit)
		if ok != fine || testsText(got) != testsText(want) {
			t.Errorf("ConcolicTests(%s, %v, %d, %d, %d) = %s, %v, want %s, %v", dumpProgram(p), first, fuel, most, limit, testsText(got), ok, testsText(want), fine)
		}
		if !ok {
			failed++
			continue
		}
		sizes[min(len(got), 4)]++
		taken := map[string]int{}
		for _, in := range got {
			taken[textOfInts(slowTurns(p, in, fuel))]++
		}
		for _, in := range allWords(p) {
			if turns := slowTurns(p, in, fuel); taken[textOfInts(turns)] != 1 {
				t.Errorf("ConcolicTests(%s, %v, %d, %d, %d) = %s take the path of %v %d times", dumpProgram(p), first, fuel, most, limit, testsText(got), in, taken[textOfInts(turns)])
			}
		}
	}
	if failed < 100 || sizes[1] < 100 || sizes[2] < 100 || sizes[3] < 30 || sizes[4] < 15 {
		t.Errorf("%d calls fail, and the others have %v tests", failed, sizes)
	}
}

func TestP9ConcolicTestsInvalid(t *testing.T) {
	mustFail := func(p impl.Program, first []int, fuel, most, limit int) {
		t.Helper()
		if got, ok := impl.ConcolicTests(p, first, fuel, most, limit); ok || len(got) != 0 {
			t.Errorf("ConcolicTests(%.300s, %.100s, %d, %d, %d) = %v, %v", dumpProgram(p), textOfInts(first), fuel, most, limit, got, ok)
		}
	}
	for _, text := range []string{sumProgram, echo3, "2 1 0|halt", "2 1 2|in r0|zero r0 2"} {
		p := readProgram(t, text)
		good := make([]int, p.In)
		for _, fuel := range []int{0, 400} {
			for _, limit := range []int{100, 3000} {
				if got, ok := impl.ConcolicTests(p, good, fuel, 64, limit); !ok || len(got) == 0 || !slices.Equal(got[0], good) {
					t.Errorf("ConcolicTests of %q = %v, %v", text, got, ok)
				}
			}
		}
		for _, in := range badLists(p.W, p.In) {
			mustFail(p, in, 20, 8, 100)
		}
		for _, fuel := range badFuels {
			mustFail(p, good, fuel, 8, 100)
		}
		for _, most := range badMosts {
			mustFail(p, good, 20, most, 100)
			mustFail(p, good, 0, most, 100)
		}
		for _, limit := range badLimits {
			mustFail(p, good, 20, 8, limit)
			mustFail(p, good, 0, 8, limit)
		}
	}
	for _, bad := range badPrograms() {
		for n := range 3 {
			mustFail(bad, make([]int, n), 20, 8, 100)
		}
	}
}

func TestP9ShrinkInputs(t *testing.T) {
	const (
		same  = "3 1 2|in r0|in r1|xor r1 r0|zero r1 5|halt|not r0"
		order = "3 1 2|in r0|in r1|less r1 r0|check r1|halt"
		three = "3 1 3|in r0|in r1|in r2|less r0 r1|check r0|less r1 r2|check r1|halt"
	)
	for _, c := range []struct {
		program, in string
		fuel        int
		want        string
	}{
		{sumProgram, "4", 20, "0"}, {sumProgram, "7", 20, "0"}, {sumProgram, "6", 400, "0"},
		// They are 0 already, or are not looked at.
		{sumProgram, "0", 20, "0"}, {same, "0 0", 20, "0 0"}, {echo3, "7", 20, "0"}, {echo3, "0", 20, "0"}, {"3 1 3|halt", "5 6 7", 20, "0 0 0"}, {"3 1 3|in r0|check r0", "5 6 7", 20, "1 0 0"}, {"3 1 2|in r0|in r1|check r1", "5 6", 20, "0 1"},
		// They cannot be made less.
		{sumProgram, "5", 20, "5"}, {same, "5 5", 20, "5 5"}, {descent, "4", 400, "4"}, {bits, "13", 400, "13"}, {three, "0 1 2", 20, "0 1 2"},
		// A later input depends on an earlier one, and not the other way round.
		{same, "5 3", 20, "0 1"}, {same, "5 1", 20, "0 1"}, {same, "5 0", 20, "1 0"}, {same, "1 0", 20, "1 0"}, {order, "7 3", 20, "4 0"}, {order, "3 2", 20, "3 0"}, {order, "3 3", 20, "0 0"}, {order, "3 7", 20, "0 0"}, {order, "1 0", 20, "1 0"}, {three, "3 5 7", 20, "0 1 2"}, {three, "2 1 0", 20, "1 0 0"}, {three, "3 5 2", 20, "0 2 0"}, {three, "4 7 7", 20, "0 7 0"},
		// The fuel ends before a question, and behind it.
		{sumProgram, "5", 0, "0"}, {sumProgram, "5", 3, "0"}, {sumProgram, "5", 4, "5"}, {same, "5 5", 3, "0 0"}, {same, "5 5", 4, "5 5"}, {descent, "4", 2, "0"}, {descent, "4", 3, "1"}, {descent, "4", 5, "1"}, {descent, "4", 6, "2"}, {descent, "4", 12, "4"}, {descent, "7", 12, "4"}, {descent, "3", 12, "3"}, {three, "3 5 7", 5, "0 1 0"}, {three, "3 5 7", 4, "0 0 0"}, {three, "3 5 7", 7, "0 1 2"}, {three, "3 5 7", 6, "0 1 0"},
		{cubeProgram, "3 5", 400, "1 1"}, {cubeProgram, "16 3", 400, "1 1"}, {cubeProgram, "16 4", 400, "0 0"}, {cubeProgram, "16 16", 400, "0 0"}, {"8 1 1|in r0|set r1 200|less r0 r1|zero r0 5|halt", "255", 400, "200"}, {"8 1 1|in r0|set r1 200|less r0 r1|zero r0 5|halt", "199", 400, "0"},
	} {
		if got := textOfInts(impl.ShrinkInputs(readProgram(t, c.program), readInts(t, c.in), c.fuel)); got != c.want {
			t.Errorf("ShrinkInputs(%q, %s, %d) = %s, want %s", c.program, c.in, c.fuel, got, c.want)
		}
	}
}

// TestP9ShrinkInputsOfAny compares with the document's text, and checks that inputs are not greater and take the same path.
func TestP9ShrinkInputsOfAny(t *testing.T) {
	m := maker{state: 557}
	looping, _ := loopingPrograms(200)
	less, stay := 0, 0
	for _, p := range slices.Concat(forkingPrograms(700), looping, somePrograms(60)) {
		fuel := m.below(60)
		for range 3 {
			in := m.inputs(p)
			got := impl.ShrinkInputs(p, in, fuel)
			if want := slowShrink(p, in, fuel); !slices.Equal(got, want) {
				t.Errorf("ShrinkInputs(%s, %v, %d) = %v, want %v", dumpProgram(p), in, fuel, got, want)
				continue
			}
			a, _ := impl.PathFor(p, in, fuel)
			if b, ok := impl.PathFor(p, got, fuel); !ok || textOfPath(a) != textOfPath(b) {
				t.Errorf("the inputs %v of %s take another path than %v", got, dumpProgram(p), in)
			}
			for k, n := range got {
				less, stay = less+truth(n < in[k]), stay+truth(n == in[k] && n > 0)
				if n > in[k] {
					t.Errorf("ShrinkInputs(%s, %v, %d) = %v", dumpProgram(p), in, fuel, got)
				}
			}
		}
	}
	if less < 500 || stay < 200 {
		t.Errorf("%d inputs become less, and %d stay", less, stay)
	}
}

func TestP9ShrinkInputsInvalid(t *testing.T) {
	mustBeNone := func(p impl.Program, in []int, fuel int) {
		t.Helper()
		if got := impl.ShrinkInputs(p, in, fuel); len(got) != 0 {
			t.Errorf("ShrinkInputs(%.300s, %.100s, %d) = %v", dumpProgram(p), textOfInts(in), fuel, got)
		}
	}
	for _, text := range []string{sumProgram, echo3, "2 1 0|halt", "2 1 2|in r0|zero r0 2"} {
		p := readProgram(t, text)
		good := make([]int, p.In)
		if got := impl.ShrinkInputs(p, good, 20); !slices.Equal(got, good) {
			t.Errorf("ShrinkInputs of %q = %v", text, got)
		}
		for _, in := range badLists(p.W, p.In) {
			mustBeNone(p, in, 20)
		}
		for _, fuel := range badFuels {
			mustBeNone(p, good, fuel)
		}
	}
	for _, bad := range badPrograms() {
		for n := range 3 {
			mustBeNone(bad, make([]int, n), 20)
		}
	}
}
