package tests

import (
	"testing"

	"loop.example/g03219/impl"
)

// A making is the text of a term, and that of what MakeTerm gives for its Op, W, N and Kids.
type making struct{ from, want string }

func checkMakings(t *testing.T, l []making) {
	t.Helper()
	for _, c := range l {
		u := read(t, c.from)
		got, ok := impl.MakeTerm(u.Op, u.W, u.N, u.Kids)
		if want := read(t, c.want); !ok || !alike(got, want) {
			t.Errorf("MakeTerm for %s = %s, %v, want %s", c.from, dump(got), ok, c.want)
		}
	}
}

func TestP3MakeTermRule1(t *testing.T) {
	checkMakings(t, []making{
		{"(not 3:5)", "3:2"}, {"(neg 3:3)", "3:5"}, {"(neg 3:0)", "3:0"}, {"(add 3:6 3:5)", "3:3"}, {"(add 3:5 3:6)", "3:3"},
		{"(sub 3:1 3:3)", "3:6"}, {"(mul 3:3 3:5)", "3:7"}, {"(div 3:7 3:2)", "3:3"}, {"(div 3:5 3:0)", "3:7"}, {"(div 3:0 3:0)", "3:7"},
		{"(rem 3:7 3:3)", "3:1"}, {"(rem 3:7 3:0)", "3:7"}, {"(and 4:12 4:10)", "4:8"}, {"(or 4:12 4:10)", "4:14"}, {"(xor 4:12 4:10)", "4:6"},
		{"(shl 4:3 4:2)", "4:12"}, {"(shl 4:3 4:9)", "4:0"}, {"(shr 4:12 4:2)", "4:3"}, {"(sar 4:12 4:1)", "4:14"}, {"(sar 4:12 4:15)", "4:15"},
		{"(eq 4:3 4:3)", "1:1"}, {"(eq 4:3 4:4)", "1:0"}, {"(less 4:3 4:12)", "1:1"}, {"(less 4:12 4:3)", "1:0"}, {"(below 4:3 4:12)", "1:0"}, {"(below 4:12 4:3)", "1:1"},
		{"(if 1:0 3:5 3:6)", "3:6"}, {"(if 1:1 3:5 3:6)", "3:5"}, {"(join 2:2 3:1)", "5:17"}, {"(cut 1 2 4:13)", "2:2"}, {"(cut 0 4 4:13)", "4:13"},
		{"(grow 4 2:2)", "4:2"}, {"(stretch 4 2:2)", "4:14"}, {"(stretch 4 2:1)", "4:1"}, {"(grow 2 2:2)", "2:2"},
		{"(eq 1:0 1:0)", "1:1"}, {"(xor 16:65535 16:1)", "16:65534"},
	})
}

func TestP3MakeTermRule2(t *testing.T) {
	checkMakings(t, []making{
		{"(add b:3 a:3)", "(add a:3 b:3)"}, {"(mul b:3 a:3)", "(mul a:3 b:3)"}, {"(and b:3 a:3)", "(and a:3 b:3)"},
		{"(or b:3 a:3)", "(or a:3 b:3)"}, {"(xor b:3 a:3)", "(xor a:3 b:3)"}, {"(eq b:3 a:3)", "(eq a:3 b:3)"},
		{"(add a:3 (not a:3))", "(add (not a:3) a:3)"}, {"(mul a:3 3:2)", "(mul 3:2 a:3)"}, {"(eq a:3 3:7)", "(eq 3:7 a:3)"},
		{"(or (cut 1 3 a:8) (cut 0 3 b:8))", "(or (cut 0 3 b:8) (cut 1 3 a:8))"}, {"(eq (sub a:3 b:3) (sub a:3 a:3))", "(eq (sub a:3 a:3) (sub a:3 b:3))"},
		// Others follow.
		{"(add a:3 3:0)", "a:3"}, {"(mul a:3 3:0)", "3:0"}, {"(mul a:3 3:1)", "a:3"}, {"(and a:3 3:0)", "3:0"}, {"(and a:3 3:7)", "a:3"},
		{"(or a:3 3:0)", "a:3"}, {"(or a:3 3:7)", "3:7"}, {"(xor a:3 3:0)", "a:3"}, {"(xor a:3 3:7)", "(not a:3)"}, {"(xor (not a:3) 3:7)", "a:3"},
		{"(eq a:1 1:1)", "a:1"}, {"(eq a:1 1:0)", "(not a:1)"}, {"(add (add 3:1 a:3) 3:2)", "(add 3:3 a:3)"}, {"(add (add 3:1 a:3) 3:7)", "a:3"},
		// Not for these operations, nor where the order is right.
		{"(sub b:3 a:3)", "(sub b:3 a:3)"}, {"(div b:3 a:3)", "(div b:3 a:3)"}, {"(rem b:3 a:3)", "(rem b:3 a:3)"}, {"(shl b:3 a:3)", "(shl b:3 a:3)"},
		{"(shr b:3 a:3)", "(shr b:3 a:3)"}, {"(sar b:3 a:3)", "(sar b:3 a:3)"}, {"(less b:3 a:3)", "(less b:3 a:3)"}, {"(below b:3 a:3)", "(below b:3 a:3)"},
		{"(join b:3 a:3)", "(join b:3 a:3)"}, {"(if c:1 b:3 a:3)", "(if c:1 b:3 a:3)"}, {"(if c:1 b:1 a:1)", "(if c:1 b:1 a:1)"}, {"(add a:3 b:3)", "(add a:3 b:3)"},
		{"(less a:3 3:5)", "(less a:3 3:5)"}, {"(sub a:3 3:5)", "(sub a:3 3:5)"},
	})
}

// TestP3MakeTermRule3 has second kids that a later rule or another call of MakeTerm would change.
func TestP3MakeTermRule3(t *testing.T) {
	checkMakings(t, []making{
		{"(add 3:0 a:3)", "a:3"}, {"(add 3:0 (add 3:0 a:3))", "(add 3:0 a:3)"}, {"(mul 3:0 a:3)", "3:0"}, {"(mul 3:0 (mul 3:2 a:3))", "3:0"},
		{"(mul 3:1 a:3)", "a:3"}, {"(mul 3:1 (mul 3:0 a:3))", "(mul 3:0 a:3)"}, {"(and 3:0 a:3)", "3:0"}, {"(and 3:7 a:3)", "a:3"}, {"(and 3:7 (and 3:0 a:3))", "(and 3:0 a:3)"},
		{"(or 3:0 a:3)", "a:3"}, {"(or 3:0 (or 3:7 a:3))", "(or 3:7 a:3)"}, {"(or 3:7 a:3)", "3:7"}, {"(xor 3:0 a:3)", "a:3"}, {"(xor 3:0 (xor 3:7 a:3))", "(xor 3:7 a:3)"},
		{"(xor 3:7 a:3)", "(not a:3)"}, {"(xor 3:7 (xor 3:7 a:3))", "(not (xor 3:7 a:3))"}, {"(eq 1:1 a:1)", "a:1"}, {"(eq 1:1 (eq 1:1 a:1))", "(eq 1:1 a:1)"}, {"(eq 1:0 a:1)", "(not a:1)"},
		{"(add 1:0 a:1)", "a:1"}, {"(mul 1:0 a:1)", "1:0"}, {"(mul 1:1 a:1)", "a:1"}, {"(and 1:0 a:1)", "1:0"}, {"(and 1:1 a:1)", "a:1"}, {"(or 1:0 a:1)", "a:1"}, {"(or 1:1 a:1)", "1:1"},
		{"(xor 1:0 a:1)", "a:1"}, {"(xor 1:1 a:1)", "(not a:1)"}, {"(and 16:65535 a:16)", "a:16"}, {"(or 16:65535 a:16)", "16:65535"}, {"(and 3:0 (sub a:3 a:3))", "3:0"},
		// Rule 6 follows.
		{"(xor 3:7 (not a:3))", "a:3"}, {"(xor 3:7 (not (not a:3)))", "(not a:3)"}, {"(eq 1:0 (not a:1))", "a:1"},
		// Not for these.
		{"(add 3:7 a:3)", "(add 3:7 a:3)"}, {"(add 1:1 a:1)", "(add 1:1 a:1)"}, {"(mul 3:7 a:3)", "(mul 3:7 a:3)"}, {"(mul 3:2 a:3)", "(mul 3:2 a:3)"}, {"(and 3:1 a:3)", "(and 3:1 a:3)"},
		{"(or 3:1 a:3)", "(or 3:1 a:3)"}, {"(xor 3:1 a:3)", "(xor 3:1 a:3)"}, {"(eq 3:0 a:3)", "(eq 3:0 a:3)"}, {"(eq 3:1 a:3)", "(eq 3:1 a:3)"}, {"(eq 3:7 a:3)", "(eq 3:7 a:3)"}, {"(eq 2:0 a:2)", "(eq 2:0 a:2)"},
		{"(sub 3:0 a:3)", "(sub 3:0 a:3)"}, {"(sub 3:7 a:3)", "(sub 3:7 a:3)"}, {"(div 3:0 a:3)", "(div 3:0 a:3)"}, {"(div 3:1 a:3)", "(div 3:1 a:3)"}, {"(rem 3:0 a:3)", "(rem 3:0 a:3)"},
		{"(shl 3:0 a:3)", "(shl 3:0 a:3)"}, {"(shr 3:0 a:3)", "(shr 3:0 a:3)"}, {"(sar 3:0 a:3)", "(sar 3:0 a:3)"}, {"(sar 3:7 a:3)", "(sar 3:7 a:3)"},
		{"(less 3:0 a:3)", "(less 3:0 a:3)"}, {"(less 3:7 a:3)", "(less 3:7 a:3)"}, {"(less 1:0 a:1)", "(less 1:0 a:1)"}, {"(below 3:0 a:3)", "(below 3:0 a:3)"},
		{"(join 3:0 a:3)", "(join 3:0 a:3)"}, {"(join 1:1 a:1)", "(join 1:1 a:1)"},
	})
}

func TestP3MakeTermRule4(t *testing.T) {
	checkMakings(t, []making{
		{"(sub a:3 3:0)", "a:3"}, {"(shl a:3 3:0)", "a:3"}, {"(shr a:3 3:0)", "a:3"}, {"(sar a:3 3:0)", "a:3"}, {"(less a:3 3:0)", "1:0"}, {"(less a:1 1:0)", "1:0"},
		{"(sub (sub a:3 3:0) 3:0)", "(sub a:3 3:0)"}, {"(shl (shl a:3 3:0) 3:0)", "(shl a:3 3:0)"},
		// Not for these.
		{"(div a:3 3:0)", "(div a:3 3:0)"}, {"(rem a:3 3:0)", "(rem a:3 3:0)"}, {"(below a:3 3:0)", "(below a:3 3:0)"}, {"(join a:3 3:0)", "(join a:3 3:0)"}, {"(if c:1 a:3 3:0)", "(if c:1 a:3 3:0)"},
		{"(sub a:3 3:1)", "(sub a:3 3:1)"}, {"(shl a:3 3:1)", "(shl a:3 3:1)"}, {"(shl a:3 3:7)", "(shl a:3 3:7)"}, {"(shr a:3 3:4)", "(shr a:3 3:4)"}, {"(sar a:3 3:1)", "(sar a:3 3:1)"},
		{"(less a:3 3:1)", "(less a:3 3:1)"}, {"(less a:1 1:1)", "(less a:1 1:1)"}, {"(div a:3 3:1)", "(div a:3 3:1)"}, {"(rem a:3 3:1)", "(rem a:3 3:1)"},
	})
}

func TestP3MakeTermRule5(t *testing.T) {
	checkMakings(t, []making{
		{"(and a:3 a:3)", "a:3"}, {"(or a:3 a:3)", "a:3"}, {"(sub a:3 a:3)", "3:0"}, {"(xor a:3 a:3)", "3:0"}, {"(less a:3 a:3)", "1:0"}, {"(below a:3 a:3)", "1:0"},
		{"(eq a:3 a:3)", "1:1"}, {"(eq a:1 a:1)", "1:1"}, {"(and (not (not a:3)) (not (not a:3)))", "(not (not a:3))"}, {"(eq (add a:3 b:3) (add a:3 b:3))", "1:1"},
		// Not for these.
		{"(add a:3 a:3)", "(add a:3 a:3)"}, {"(mul a:3 a:3)", "(mul a:3 a:3)"}, {"(div a:3 a:3)", "(div a:3 a:3)"}, {"(rem a:3 a:3)", "(rem a:3 a:3)"}, {"(shl a:3 a:3)", "(shl a:3 a:3)"},
		{"(shr a:3 a:3)", "(shr a:3 a:3)"}, {"(sar a:3 a:3)", "(sar a:3 a:3)"}, {"(join a:3 a:3)", "(join a:3 a:3)"}, {"(if a:1 a:1 b:1)", "(if a:1 a:1 b:1)"},
		{"(and a:3 b:3)", "(and a:3 b:3)"}, {"(eq (add a:3 b:3) (add b:3 a:3))", "(eq (add a:3 b:3) (add b:3 a:3))"}, {"(sub (not a:3) a:3)", "(sub (not a:3) a:3)"},
		{"(and (not a:3) a:3)", "(and (not a:3) a:3)"}, {"(less (not a:3) (not b:3))", "(less (not a:3) (not b:3))"},
	})
}

func TestP3MakeTermRule6(t *testing.T) {
	checkMakings(t, []making{
		{"(not (not a:3))", "a:3"}, {"(neg (neg a:3))", "a:3"}, {"(not (not (not (not a:3))))", "(not (not a:3))"}, {"(neg (neg (neg a:3)))", "(neg a:3)"}, {"(not (not 3:5))", "3:5"},
		{"(not (neg a:3))", "(not (neg a:3))"}, {"(neg (not a:3))", "(neg (not a:3))"}, {"(not a:3)", "(not a:3)"}, {"(neg a:3)", "(neg a:3)"}, {"(neg a:1)", "(neg a:1)"},
		{"(not (eq a:3 b:3))", "(not (eq a:3 b:3))"}, {"(neg (sub a:3 b:3))", "(neg (sub a:3 b:3))"},
	})
}

func TestP3MakeTermRule7(t *testing.T) {
	checkMakings(t, []making{
		{"(add 3:1 (add 3:2 a:3))", "(add 3:3 a:3)"}, {"(add 3:6 (add 3:5 a:3))", "(add 3:3 a:3)"}, {"(mul 3:2 (mul 3:3 a:3))", "(mul 3:6 a:3)"}, {"(mul 3:3 (mul 3:5 a:3))", "(mul 3:7 a:3)"},
		{"(and 3:6 (and 3:3 a:3))", "(and 3:2 a:3)"}, {"(or 3:1 (or 3:4 a:3))", "(or 3:5 a:3)"}, {"(xor 3:5 (xor 3:6 a:3))", "(xor 3:3 a:3)"}, {"(add 3:1 (add 3:2 (neg (neg a:3))))", "(add 3:3 (neg (neg a:3)))"},
		// Others follow.
		{"(add 3:1 (add 3:7 a:3))", "a:3"}, {"(mul 3:2 (mul 3:4 a:3))", "3:0"}, {"(mul 3:3 (mul 3:3 a:3))", "a:3"}, {"(and 3:1 (and 3:2 a:3))", "3:0"}, {"(or 3:1 (or 3:6 a:3))", "3:7"},
		{"(xor 3:1 (xor 3:6 a:3))", "(not a:3)"}, {"(xor 3:5 (xor 3:5 a:3))", "a:3"}, {"(add 3:1 (add 3:2 (add 3:3 a:3)))", "(add 3:6 a:3)"}, {"(add 3:1 (add 3:2 3:3))", "3:6"}, {"(xor 3:1 (xor 3:6 (not a:3)))", "a:3"},
		// Not for these.
		{"(add 3:1 (mul 3:2 a:3))", "(add 3:1 (mul 3:2 a:3))"}, {"(or 3:1 (and 3:2 a:3))", "(or 3:1 (and 3:2 a:3))"}, {"(add 3:1 (add a:3 b:3))", "(add 3:1 (add a:3 b:3))"}, {"(add 3:1 (add a:3 3:2))", "(add 3:1 (add a:3 3:2))"},
		{"(sub 3:1 (sub 3:2 a:3))", "(sub 3:1 (sub 3:2 a:3))"}, {"(div 3:1 (div 3:2 a:3))", "(div 3:1 (div 3:2 a:3))"}, {"(shl 3:1 (shl 3:2 a:3))", "(shl 3:1 (shl 3:2 a:3))"}, {"(add (add 3:1 a:3) b:3)", "(add (add 3:1 a:3) b:3)"},
		{"(add (add 3:1 a:3) (add 3:2 a:3))", "(add (add 3:1 a:3) (add 3:2 a:3))"}, {"(eq 3:1 (add 3:1 a:3))", "(eq 3:1 (add 3:1 a:3))"}, {"(less 1:1 (less 1:1 a:1))", "(less 1:1 (less 1:1 a:1))"}, {"(join 3:1 (join 3:2 a:3))", "(join 3:1 (join 3:2 a:3))"},
	})
}

func TestP3MakeTermRule8(t *testing.T) {
	checkMakings(t, []making{
		{"(if 1:1 a:3 b:3)", "a:3"}, {"(if 1:0 a:3 b:3)", "b:3"}, {"(if 1:1 (not (not a:3)) b:3)", "(not (not a:3))"}, {"(if c:1 a:3 a:3)", "a:3"}, {"(if c:1 3:2 3:2)", "3:2"},
		{"(if (not c:1) (neg (neg a:3)) (neg (neg a:3)))", "(neg (neg a:3))"}, {"(if (not c:1) a:3 b:3)", "(if c:1 b:3 a:3)"}, {"(if c:1 1:1 1:0)", "c:1"}, {"(if c:1 1:0 1:1)", "(not c:1)"},
		{"(if (eq a:3 b:3) 1:1 1:0)", "(eq a:3 b:3)"}, {"(if (eq 1:1 c:1) 1:1 1:0)", "(eq 1:1 c:1)"}, {"(if (eq 1:1 c:1) 1:0 1:1)", "(not (eq 1:1 c:1))"}, {"(if c:1 c:1 c:1)", "c:1"},
		// Others of them follow.
		{"(if (not (not c:1)) a:3 b:3)", "(if c:1 a:3 b:3)"}, {"(if (not c:1) 1:1 1:0)", "(not c:1)"}, {"(if (not c:1) 1:0 1:1)", "c:1"}, {"(if (not (not c:1)) 1:1 1:0)", "c:1"}, {"(if (not (not c:1)) 1:0 1:1)", "(not c:1)"},
		{"(if (not 1:1) a:3 b:3)", "b:3"}, {"(if (not 1:0) a:3 b:3)", "a:3"},
		// Not for these.
		{"(if c:1 a:3 b:3)", "(if c:1 a:3 b:3)"}, {"(if c:1 3:1 3:0)", "(if c:1 3:1 3:0)"}, {"(if c:1 3:0 3:1)", "(if c:1 3:0 3:1)"}, {"(if c:1 2:1 2:0)", "(if c:1 2:1 2:0)"}, {"(if c:1 1:1 a:1)", "(if c:1 1:1 a:1)"},
		{"(if c:1 a:1 1:0)", "(if c:1 a:1 1:0)"}, {"(if c:1 1:0 a:1)", "(if c:1 1:0 a:1)"}, {"(if c:1 a:1 1:1)", "(if c:1 a:1 1:1)"}, {"(if (neg c:1) a:3 b:3)", "(if (neg c:1) a:3 b:3)"},
		{"(if c:1 (if c:1 a:3 b:3) d:3)", "(if c:1 (if c:1 a:3 b:3) d:3)"}, {"(if c:1 (not a:3) (not b:3))", "(if c:1 (not a:3) (not b:3))"},
	})
}

func TestP3MakeTermRule9(t *testing.T) {
	checkMakings(t, []making{
		{"(cut 0 3 a:3)", "a:3"}, {"(cut 0 1 a:1)", "a:1"}, {"(cut 0 3 (cut 0 3 a:3))", "(cut 0 3 a:3)"}, {"(cut 0 3 (grow 3 a:3))", "(grow 3 a:3)"}, {"(cut 0 3 (not (not a:3)))", "(not (not a:3))"},
		{"(cut 1 2 (cut 2 4 a:8))", "(cut 3 2 a:8)"}, {"(cut 0 2 (cut 2 4 a:8))", "(cut 2 2 a:8)"}, {"(cut 1 2 (cut 0 4 a:8))", "(cut 1 2 a:8)"}, {"(cut 1 1 (cut 1 2 (cut 2 4 a:8)))", "(cut 4 1 a:8)"},
		{"(cut 0 1 (join a:2 b:3))", "(cut 0 1 b:3)"}, {"(cut 1 2 (join a:2 b:3))", "(cut 1 2 b:3)"}, {"(cut 0 3 (join a:2 b:3))", "b:3"}, {"(cut 3 1 (join a:2 b:3))", "(cut 0 1 a:2)"}, {"(cut 4 1 (join a:2 b:3))", "(cut 1 1 a:2)"},
		{"(cut 3 2 (join a:2 b:3))", "a:2"}, {"(cut 1 1 (join a:2 (join b:1 c:2)))", "(cut 1 1 c:2)"}, {"(cut 2 1 (join a:2 (join b:1 c:2)))", "b:1"}, {"(cut 4 1 (join (join a:1 b:1) c:3))", "a:1"}, {"(cut 2 1 (join a:2 3:5))", "1:1"}, {"(cut 3 1 (join 2:1 a:3))", "1:1"},
		{"(cut 1 2 (grow 8 a:3))", "(cut 1 2 a:3)"}, {"(cut 0 3 (grow 8 a:3))", "a:3"}, {"(cut 0 2 (stretch 8 a:3))", "(cut 0 2 a:3)"}, {"(cut 0 3 (stretch 8 a:3))", "a:3"}, {"(cut 1 1 (grow 8 (stretch 6 a:3)))", "(cut 1 1 a:3)"},
		{"(cut 1 1 (cut 1 3 (join a:4 b:4)))", "(cut 2 1 b:4)"}, {"(cut 1 2 (grow 8 (cut 3 3 a:8)))", "(cut 4 2 a:8)"},
		// Not for these.
		{"(cut 0 2 a:3)", "(cut 0 2 a:3)"}, {"(cut 1 2 a:3)", "(cut 1 2 a:3)"}, {"(cut 2 2 (join a:2 b:3))", "(cut 2 2 (join a:2 b:3))"}, {"(cut 0 4 (join a:2 b:3))", "(cut 0 4 (join a:2 b:3))"}, {"(cut 2 3 (join a:2 b:3))", "(cut 2 3 (join a:2 b:3))"},
		{"(cut 0 4 (grow 8 a:3))", "(cut 0 4 (grow 8 a:3))"}, {"(cut 1 3 (grow 8 a:3))", "(cut 1 3 (grow 8 a:3))"}, {"(cut 3 2 (grow 8 a:3))", "(cut 3 2 (grow 8 a:3))"}, {"(cut 7 1 (stretch 8 a:3))", "(cut 7 1 (stretch 8 a:3))"},
		{"(cut 2 2 (stretch 8 a:3))", "(cut 2 2 (stretch 8 a:3))"}, {"(cut 0 2 (add a:3 b:3))", "(cut 0 2 (add a:3 b:3))"}, {"(cut 0 2 (not a:3))", "(cut 0 2 (not a:3))"}, {"(cut 0 2 (if c:1 a:3 b:3))", "(cut 0 2 (if c:1 a:3 b:3))"},
	})
}

func TestP3MakeTermRule10(t *testing.T) {
	checkMakings(t, []making{
		{"(grow 3 a:3)", "a:3"}, {"(stretch 3 a:3)", "a:3"}, {"(grow 1 a:1)", "a:1"}, {"(grow 5 (grow 5 a:5))", "(grow 5 a:5)"}, {"(stretch 5 (stretch 5 a:5))", "(stretch 5 a:5)"}, {"(grow 5 (stretch 5 a:3))", "(stretch 5 a:3)"},
		{"(grow 8 (grow 5 a:3))", "(grow 8 a:3)"}, {"(stretch 8 (stretch 5 a:3))", "(stretch 8 a:3)"}, {"(grow 8 (grow 5 (grow 4 a:3)))", "(grow 8 a:3)"}, {"(stretch 9 (stretch 8 (stretch 5 a:3)))", "(stretch 9 a:3)"},
		{"(grow 8 (grow 5 3:5))", "8:5"}, {"(stretch 8 (stretch 5 3:5))", "8:253"},
		// Not for these.
		{"(grow 8 (stretch 5 a:3))", "(grow 8 (stretch 5 a:3))"}, {"(stretch 8 (grow 5 a:3))", "(stretch 8 (grow 5 a:3))"}, {"(grow 4 a:3)", "(grow 4 a:3)"}, {"(stretch 4 a:3)", "(stretch 4 a:3)"}, {"(grow 4 (cut 0 3 a:4))", "(grow 4 (cut 0 3 a:4))"},
	})
}

func TestP3MakeTermRule11(t *testing.T) {
	checkMakings(t, []making{
		{"(join (cut 3 2 a:8) (cut 1 2 a:8))", "(cut 1 4 a:8)"}, {"(join (cut 3 4 a:8) (cut 2 1 a:8))", "(cut 2 5 a:8)"}, {"(join (cut 2 1 (not a:3)) (cut 0 2 (not a:3)))", "(not a:3)"},
		// Rule 9 follows.
		{"(join (cut 4 4 a:8) (cut 0 4 a:8))", "a:8"}, {"(join (cut 1 1 (join a:4 b:4)) (cut 0 1 (join a:4 b:4)))", "(cut 0 2 b:4)"}, {"(join (cut 2 1 (cut 1 6 a:8)) (cut 1 1 (cut 1 6 a:8)))", "(cut 2 2 a:8)"},
		// Not for these.
		{"(join (cut 1 2 a:8) (cut 3 2 a:8))", "(join (cut 1 2 a:8) (cut 3 2 a:8))"}, {"(join (cut 3 2 a:8) (cut 1 2 b:8))", "(join (cut 3 2 a:8) (cut 1 2 b:8))"}, {"(join (cut 4 2 a:8) (cut 1 2 a:8))", "(join (cut 4 2 a:8) (cut 1 2 a:8))"},
		{"(join (cut 2 2 a:8) (cut 1 2 a:8))", "(join (cut 2 2 a:8) (cut 1 2 a:8))"}, {"(join (cut 4 4 a:8) a:8)", "(join (cut 4 4 a:8) a:8)"}, {"(join a:8 (cut 0 4 a:8))", "(join a:8 (cut 0 4 a:8))"}, {"(join (cut 1 2 a:8) (cut 1 2 a:8))", "(join (cut 1 2 a:8) (cut 1 2 a:8))"},
		{"(join (cut 2 2 a:8) (join (cut 1 1 a:8) (cut 0 1 a:8)))", "(join (cut 2 2 a:8) (join (cut 1 1 a:8) (cut 0 1 a:8)))"}, {"(join (cut 4 4 a:8) (grow 4 b:3))", "(join (cut 4 4 a:8) (grow 4 b:3))"}, {"(join 2:1 (cut 0 2 a:8))", "(join 2:1 (cut 0 2 a:8))"},
		{"(join (cut 1 3 a:8) (eq a:8 b:8))", "(join (cut 1 3 a:8) (eq a:8 b:8))"}, {"(join (cut 3 1 a:8) b:3)", "(join (cut 3 1 a:8) b:3)"}, {"(join (cut 5 1 a:8) 3:2)", "(join (cut 5 1 a:8) 3:2)"}, {"(join 4:3 (cut 1 2 a:8))", "(join 4:3 (cut 1 2 a:8))"},
	})
}

// TestP3MakeTermRule12 has constants, and terms whose kids are not simple: MakeTerm leaves them.
func TestP3MakeTermRule12(t *testing.T) {
	checkMakings(t, []making{
		{"3:5", "3:5"}, {"1:0", "1:0"}, {"16:65535", "16:65535"}, {"(sub (add a:3 3:0) (not (not b:3)))", "(sub (add a:3 3:0) (not (not b:3)))"}, {"(not (add 3:1 3:1))", "(not (add 3:1 3:1))"},
		{"(add 3:1 (sub a:3 a:3))", "(add 3:1 (sub a:3 a:3))"}, {"(if (eq a:3 a:3) a:3 b:3)", "(if (eq a:3 a:3) a:3 b:3)"}, {"(cut 0 1 (grow 3 (grow 2 a:1)))", "a:1"}, {"(grow 4 (sub a:3 a:3))", "(grow 4 (sub a:3 a:3))"},
		{"(div (mul a:3 b:3) b:3)", "(div (mul a:3 b:3) b:3)"}, {"(rem a:3 3:4)", "(rem a:3 3:4)"}, {"(below a:3 b:3)", "(below a:3 b:3)"}, {"(join a:3 b:2)", "(join a:3 b:2)"},
	})
}

func TestP2MakeTermFails(t *testing.T) {
	cases := badLeaves()
	cases = append(cases, node(impl.OpVar, 3, 0), node(impl.OpVar, 3, 0, constant(3, 1)))
	for _, u := range badTerms() {
		cases = append(cases, node(impl.OpNot, u.W, 0, u), node(impl.OpAdd, 3, 0, constant(3, 0), u), node(impl.OpIf, 3, 0, constant(1, 1), constant(3, 0), u), node(impl.OpCut, 1, 0, u))
	}
	// Rules that would make these valid are looked for too late.
	cases = append(cases, node(impl.OpAnd, 3, 0, constant(3, 0), sized(3, 239)), node(impl.OpNot, 3, 0, nots(239, variable(3, "a"))), node(impl.OpIf, 3, 0, constant(1, 1), variable(3, "a"), node(impl.OpGrow, 3, 0, variable(2, "a"))))
	for _, u := range cases {
		if u.Name != "" {
			continue // MakeTerm has no Name
		}
		if got, ok := impl.MakeTerm(u.Op, u.W, u.N, u.Kids); ok || !isZero(got) {
			t.Errorf("MakeTerm for %.200s = %.200s, %v", dump(u), dump(got), ok)
		}
	}
	if got, ok := impl.MakeTerm(impl.OpAnd, 3, 0, []impl.Term{constant(3, 0), sized(3, 238)}); !ok || !alike(got, constant(3, 0)) {
		t.Errorf("MakeTerm of a term of 240 nodes = %s, %v", dump(got), ok)
	}
	if got, ok := impl.MakeTerm(impl.OpNeg, 3, 0, []impl.Term{sized(3, 239)}); !ok || countNodes(got) != 240 {
		t.Errorf("MakeTerm gives a term of %d nodes, %v", countNodes(got), ok)
	}
}

// mustStandFor fails the test if two terms stand for different words for some values of the variables of the first one.
func mustStandFor(t *testing.T, m *maker, label string, u, v impl.Term) {
	t.Helper()
	if u.W != v.W || countNodes(v) > countNodes(u) {
		t.Fatalf("%s of %s = %s", label, textOf(u), textOf(v))
	}
	for range 12 {
		words := m.words(u)
		if wordOf(u, words) != wordOf(v, words) {
			t.Fatalf("%s of %s = %s, which stands for another word for %v", label, textOf(u), textOf(v), words)
		}
	}
}

func TestP3MakeTermStandsForTheSame(t *testing.T) {
	m := maker{state: 11}
	for _, u := range someTerms(3000) {
		if u.Op == impl.OpVar {
			continue
		}
		v, ok := impl.MakeTerm(u.Op, u.W, u.N, u.Kids)
		if !ok || !impl.TermOk(v) {
			t.Fatalf("MakeTerm of %s = %s, %v", textOf(u), dump(v), ok)
		}
		mustStandFor(t, &m, "MakeTerm", u, v)
	}
}

// simplified is Simplify as the document defines it, by the given MakeTerm.
func simplified(t *testing.T, u impl.Term) impl.Term {
	if u.Op == impl.OpVar {
		return u
	}
	var kids []impl.Term
	for _, kid := range u.Kids {
		kids = append(kids, simplified(t, kid))
	}
	v, ok := impl.MakeTerm(u.Op, u.W, u.N, kids)
	if !ok {
		t.Fatalf("MakeTerm with the simplified kids of %s fails", textOf(u))
	}
	return v
}

func TestP3Simplify(t *testing.T) {
	m := maker{state: 13}
	for _, u := range someTerms(3000) {
		v := impl.Simplify(u)
		if want := simplified(t, u); !alike(v, want) {
			t.Fatalf("Simplify(%s) = %s, want %s", textOf(u), textOf(v), textOf(want))
		}
		mustStandFor(t, &m, "Simplify", u, v)
		if !alike(impl.Simplify(v), v) || !impl.IsSimple(v) {
			t.Fatalf("Simplify(%s) = %s is not simple", textOf(u), textOf(v))
		}
		if impl.IsSimple(u) != alike(u, v) {
			t.Fatalf("IsSimple(%s) = %v", textOf(u), impl.IsSimple(u))
		}
	}
}

func TestP3SimplifyAtAnyDepth(t *testing.T) {
	for _, c := range []making{
		{"3:5", "3:5"}, {"a:3", "a:3"}, {"(add a:3 b:3)", "(add a:3 b:3)"},
		{"(add 3:1 (add 3:2 a:3))", "(add 3:3 a:3)"}, {"(if (not c:1) a:3 b:3)", "(if c:1 b:3 a:3)"}, {"(not (not (not (not a:3))))", "a:3"},
		{"(sub (add a:3 3:0) (not (not a:3)))", "3:0"}, {"(if (eq (add b:3 a:3) (add a:3 b:3)) (div c:3 3:0) d:3)", "(div c:3 3:0)"},
		{"(add (add (add (add a:3 3:1) 3:1) 3:1) 3:5)", "a:3"}, {"(join (cut 4 4 (add 8:0 a:8)) (cut 0 4 (not (not a:8))))", "a:8"}, {"(below (mul b:3 a:3) (mul a:3 b:3))", "1:0"},
		{"(not (if (less 3:0 3:1) (add b:3 a:3) a:3))", "(not (add a:3 b:3))"}, {"(grow 8 (if c:1 (grow 4 (grow 3 a:2)) (grow 4 a:2)))", "(grow 8 a:2)"},
	} {
		got := impl.Simplify(read(t, c.from))
		if !alike(got, read(t, c.want)) {
			t.Errorf("Simplify(%s) = %s, want %s", c.from, dump(got), c.want)
		}
		if want := c.from == c.want; impl.IsSimple(read(t, c.from)) != want {
			t.Errorf("IsSimple(%s) = %v", c.from, !want)
		}
	}
	// All 240 nodes may be gone through.
	if got := impl.Simplify(nots(238, node(impl.OpNeg, 3, 0, constant(3, 1)))); !alike(got, constant(3, 7)) {
		t.Errorf("Simplify of 240 nodes = %s", dump(got))
	}
	if u := sized(3, 240); !alike(impl.Simplify(nots(0, u)), simplified(t, u)) {
		t.Error("Simplify of a broad term of 240 nodes")
	}
	for _, u := range badTerms() {
		if got := impl.Simplify(u); !isZero(got) || impl.IsSimple(u) {
			t.Errorf("Simplify(%.200s) = %.200s", dump(u), dump(got))
		}
	}
}
