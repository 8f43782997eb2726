package tests

import (
	"slices"
	"strings"
	"testing"

	"loop.example/g03219/impl"
)

// allIns are the instructions that fit, by their texts.
func allIns(w, size int) map[string]impl.Ins {
	l := map[string]impl.Ins{}
	for op := 1; op <= 14; op++ {
		r, _ := ruleOf(op, w, size)
		for a := r.a[0]; a <= r.a[1]; a++ {
			for b := r.b[0]; b <= r.b[1]; b++ {
				for c := r.c[0]; c <= r.c[1]; c++ {
					i := ins(op, a, b, c)
					l[textOfIns(i)] = i
				}
			}
		}
	}
	return l
}

func TestP2FormatIns(t *testing.T) {
	for _, c := range []struct {
		ins  impl.Ins
		want string
	}{
		{ins(1, 0, 7, 0), "set r0 7"}, {ins(1, 3, 0, 0), "set r3 0"}, {ins(2, 1, 2, 0), "move r1 r2"}, {ins(2, 0, 0, 0), "move r0 r0"},
		{ins(3, 0, 1, 3), "add r0 r1"}, {ins(3, 0, 1, 4), "sub r0 r1"}, {ins(3, 0, 1, 5), "mul r0 r1"}, {ins(3, 0, 1, 6), "div r0 r1"}, {ins(3, 0, 1, 7), "rem r0 r1"}, {ins(3, 0, 1, 8), "and r0 r1"}, {ins(3, 0, 1, 9), "or r0 r1"},
		{ins(3, 3, 2, 10), "xor r3 r2"}, {ins(3, 3, 2, 11), "shl r3 r2"}, {ins(3, 3, 2, 12), "shr r3 r2"}, {ins(3, 3, 2, 13), "sar r3 r2"}, {ins(3, 3, 2, 14), "eq r3 r2"}, {ins(3, 3, 2, 15), "less r3 r2"}, {ins(3, 3, 2, 16), "below r3 r2"},
		{ins(4, 3, 0, 0), "not r3"}, {ins(5, 0, 0, 0), "in r0"}, {ins(6, 1, 0, 0), "out r1"}, {ins(7, 1, 2, 0), "load r1 r2"}, {ins(8, 1, 2, 0), "store r1 r2"},
		{ins(9, 0, 0, 0), "jump 0"}, {ins(9, 0, 5, 0), "jump 5"}, {ins(10, 2, 5, 0), "zero r2 5"}, {ins(10, 0, 0, 0), "zero r0 0"}, {ins(11, 0, 5, 0), "call 5"}, {ins(12, 0, 0, 0), "ret"}, {ins(13, 2, 0, 0), "check r2"}, {ins(14, 0, 0, 0), "halt"},
	} {
		if got := impl.FormatIns(c.ins, 3, 5); got != c.want {
			t.Errorf("FormatIns(%v) = %q, want %q", c.ins, got, c.want)
		}
		if got, ok := impl.ParseIns(c.want, 3, 5); !ok || got != c.ins {
			t.Errorf("ParseIns(%q) = %v, %v, want %v", c.want, got, ok, c.ins)
		}
		for _, w := range slices.Concat([]int{9}, oddInts) {
			for _, size := range slices.Concat([]int{5, 40, 41}, oddInts) {
				if w >= 3 && w <= 8 && size >= 5 && size <= 40 {
					continue
				}
				want := ""
				if w >= 2 && w <= 8 && size >= 1 && size <= 40 && fits(c.ins, w, size) {
					want = c.want
				}
				if got := impl.FormatIns(c.ins, w, size); got != want {
					t.Errorf("FormatIns(%v, %d, %d) = %q, want %q", c.ins, w, size, got, want)
				}
				if got, ok := impl.ParseIns(c.want, w, size); ok != (want != "") || ok && got != c.ins || !ok && got != (impl.Ins{}) {
					t.Errorf("ParseIns(%q, %d, %d) = %v, %v", c.want, w, size, got, ok)
				}
			}
		}
	}
}

// TestP2FormatInsAtLimits has words and places that fit for one width or size, and not for the one below.
func TestP2FormatInsAtLimits(t *testing.T) {
	for w := 2; w <= 8; w++ {
		for _, size := range []int{1, 9, 10, 40} {
			for _, i := range []impl.Ins{ins(1, 2, power(w)-1, 0), ins(9, 0, size, 0), ins(10, 3, size, 0), ins(11, 0, size, 0)} {
				want := textOfIns(i)
				if got := impl.FormatIns(i, w, size); got != want {
					t.Errorf("FormatIns(%v, %d, %d) = %q, want %q", i, w, size, got, want)
				}
				if got, ok := impl.ParseIns(want, w, size); !ok || got != i {
					t.Errorf("ParseIns(%q, %d, %d) = %v, %v", want, w, size, got, ok)
				}
				i.B++
				if got := impl.FormatIns(i, w, size); got != "" {
					t.Errorf("FormatIns(%v, %d, %d) = %q", i, w, size, got)
				}
				if got, ok := impl.ParseIns(textOfIns(i), w, size); ok || got != (impl.Ins{}) {
					t.Errorf("ParseIns(%q, %d, %d) = %v, %v", textOfIns(i), w, size, got, ok)
				}
			}
		}
	}
}

func TestP2FormatInsOfNone(t *testing.T) {
	for op := -1; op <= 17; op++ {
		for _, n := range oddInts {
			for _, i := range []impl.Ins{ins(op, n, 0, 0), ins(op, 0, n, 0), ins(op, 0, 0, n), ins(op, 1, 1, n), ins(op, n, 2, 3), ins(op, 2, n, 3), ins(op, n, n, n), ins(n, 0, 0, 0)} {
				want := ""
				if fits(i, 4, 6) {
					want = textOfIns(i)
				}
				if got := impl.FormatIns(i, 4, 6); got != want {
					t.Errorf("FormatIns(%v) = %q, want %q", i, got, want)
				}
			}
		}
	}
}

// TestP2ParseIns has all instructions of small programs, and texts that are nearly those of instructions.
func TestP2ParseIns(t *testing.T) {
	for _, c := range []struct{ w, size int }{{2, 1}, {2, 2}, {4, 11}, {8, 40}} {
		all := allIns(c.w, c.size)
		check := func(s string) {
			want, known := all[s]
			if got, ok := impl.ParseIns(s, c.w, c.size); ok != known || got != want {
				t.Errorf("ParseIns(%q, %d, %d) = %v, %v, want %v, %v", s, c.w, c.size, got, ok, want, known)
			}
		}
		for s, i := range all {
			check(s)
			if got := impl.FormatIns(i, c.w, c.size); got != s {
				t.Errorf("FormatIns(%v, %d, %d) = %q, want %q", i, c.w, c.size, got, s)
			}
		}
		for _, s := range []string{"set r0 1", "set r3 3", "move r1 r2", "add r0 r3", "below r2 r2", "not r0", "in r1", "out r2", "load r0 r1", "store r3 r0", "jump 0", "jump 1", "zero r0 1", "call 1", "ret", "check r3", "halt"} {
			for _, almost := range almostTexts(s, " r012349-+xahsn\n\t\x00\xff") {
				check(almost)
			}
		}
		for _, s := range slices.Concat(oddTexts(), []string{
			"neg r0", "neg r0 r1", "op r0 r1", "not r0 r1", "if r0 r1", "set r0 r1", "set 0 1", "set r0 01", "set r0 -1", "set r0 256", "set r0 4", "set R0 1", "Set r0 1", "move r0 1", "move r0", "move r4 r0", "jump r0", "jump", "jump -0", "jump r0 0", "jump 0 0", "call r1", "zero 0", "zero r0", "zero 1 r0", "ret 0", "ret r0", "halt 0", "check", "check 0", "check r0 r0", "check r0 0", "set r0 18446744073709551617", "move rr0 r1", "move r00 r1", "set r0 r0 1", " halt", "halt ", "add  r0 r1", "", "r0", " ", " r0 r1", strings.Repeat("halt ", 1000), "set r0 " + strings.Repeat("0", 5000),
		}) {
			check(s)
		}
	}
}

func TestP2FormatProgram(t *testing.T) {
	for _, text := range []string{
		"machine 2 1 0\nhalt\n", "machine 3 2 1\nin r0\nset r1 3\nadd r0 r1\nzero r0 6\nout r0\nhalt\ncheck r0\n", "machine 8 6 3\nset r3 255\nmove r1 r2\nnot r0\nload r0 r1\nstore r2 r3\njump 10\ncall 0\nret\nsar r1 r0\nbelow r0 r0\n",
		"machine 8 6 3\n" + strings.Repeat("jump 40\n", 40),
	} {
		p, ok := impl.ParseProgram(text)
		if !ok || textOfProgram(p) != text || !impl.ProgramOk(p) {
			t.Errorf("ParseProgram(%q) = %s, %v", text, dumpProgram(p), ok)
		}
		if got := impl.FormatProgram(p); got != text {
			t.Errorf("FormatProgram of %q = %q", text, got)
		}
	}
	for _, p := range somePrograms(500) {
		text := textOfProgram(p)
		if got := impl.FormatProgram(p); got != text {
			t.Errorf("FormatProgram(%s) = %q, want %q", dumpProgram(p), got, text)
		}
		if got, ok := impl.ParseProgram(text); !ok || !samePrograms(got, p) {
			t.Errorf("ParseProgram(%q) = %s, %v", text, dumpProgram(got), ok)
		}
	}
	for _, p := range badPrograms() {
		if got := impl.FormatProgram(p); got != "" {
			t.Errorf("FormatProgram(%.300s) = %q", dumpProgram(p), got)
		}
		// The text is that of a program where only operands that are not written make it none.
		mustParseAlike(t, textOfProgram(p))
	}
}

// slowProgram is ParseProgram by looking up each line among all that there may be.
func slowProgram(s string) (impl.Program, bool) {
	lines := strings.Split(s, "\n")
	size := len(lines) - 2
	if size < 1 || size > 40 || lines[size+1] != "" {
		return impl.Program{}, false
	}
	for w := 2; w <= 8; w++ {
		for mem := 1; mem <= min(6, power(w)-1); mem++ {
			for in := range 4 {
				if lines[0] == "machine "+textOfInts([]int{w, mem, in}) {
					return slowCode(impl.Program{W: w, Mem: mem, In: in}, allIns(w, size), lines[1:size+1])
				}
			}
		}
	}
	return impl.Program{}, false
}

func slowCode(p impl.Program, all map[string]impl.Ins, lines []string) (impl.Program, bool) {
	for _, line := range lines {
		i, ok := all[line]
		if !ok {
			return impl.Program{}, false
		}
		p.Code = append(p.Code, i)
	}
	return p, true
}

func mustParseAlike(t *testing.T, s string) {
	t.Helper()
	want, known := slowProgram(s)
	if got, ok := impl.ParseProgram(s); ok != known || !samePrograms(got, want) {
		t.Errorf("ParseProgram(%.500q) = %s, %v, want %s, %v", s, dumpProgram(got), ok, dumpProgram(want), known)
	}
}

// TestP2ParseProgram has texts that are nearly those of programs.
func TestP2ParseProgram(t *testing.T) {
	text := "machine 3 2 1\nin r0\nzero r0 4\nset r1 3\nhalt\n"
	for _, s := range almostTexts(text, " \n012357-+r\x00\xff") {
		mustParseAlike(t, s)
	}
	for _, s := range almostTexts("machine 2 1 0\nret\n", "mach 03489\t") {
		mustParseAlike(t, s)
	}
	for _, s := range oddTexts() {
		mustParseAlike(t, s)
		mustParseAlike(t, "machine 3 2 1\n"+s)
		mustParseAlike(t, "machine "+s+"\nhalt\n")
		mustParseAlike(t, text+s)
	}
	for _, s := range []string{
		"", "\n", "machine 3 2 1", "machine 3 2 1\n", "machine 3 2 1\n\n", "machine 3 2 1\nhalt", "machine 3 2 1\nhalt\n\n", "\nmachine 3 2 1\nhalt\n", "machine 3 2 1\n\nhalt\n", "machine 3 2 1\nhalt\r\n",
		"machine 3  2 1\nhalt\n", " machine 3 2 1\nhalt\n", "machine 3 2 1 \nhalt\n", "machine  3 2 1\nhalt\n", "machine 3 2 1\n halt\n", "machine 3 2 1\nhalt \n", "machine 3 2 1\nset  r0 1\n",
		"machine 3 2\nhalt\n", "machine 3 2 1 0\nhalt\n", "machine 3 2 +1\nhalt\n", "machine 03 2 1\nhalt\n", "machine 3 2 1\nset r0 01\n", "machine 3 2 -0\nhalt\n", "Machine 3 2 1\nhalt\n", "3 2 1\nhalt\n", "machine machine 3 2 1\nhalt\n", "machine3 2 1\nhalt\n", "machine\nhalt\n",
		"machine 1 1 0\nhalt\n", "machine 2 3 0\nhalt\n", "machine 2 4 0\nhalt\n", "machine 9 1 0\nhalt\n", "machine 8 6 3\nhalt\n", "machine 8 7 3\nhalt\n", "machine 8 6 4\nhalt\n", "machine 8 0 3\nhalt\n", "machine 8 6 -1\nhalt\n",
		"machine 3 2 1\njump 1\n", "machine 3 2 1\njump 2\n", "machine 3 2 1\nset r0 7\n", "machine 3 2 1\nset r0 8\n", "machine 3 2 1\nin r0\n", "machine 3 2 0\nin r0\n", "machine 3 2 0\nfoo\n",
		"machine 8 6 3\n" + strings.Repeat("halt\n", 40), "machine 8 6 3\n" + strings.Repeat("halt\n", 41), "machine 8 6 3\n" + strings.Repeat("halt\n", 5000), strings.Repeat("\n", 41), "machine 8 6 3" + strings.Repeat(" 1", 5000) + "\nhalt\n",
	} {
		mustParseAlike(t, s)
	}
}
