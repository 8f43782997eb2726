package tests

import (
	"slices"
	"testing"

	"loop.example/g03219/impl"
)

var binaryOps = []int{3, 4, 5, 6, 7, 8, 9, 10, 11, 12, 13, 14, 15, 16}

func TestP5AddLits(t *testing.T) {
	for _, c := range []struct {
		circuit string
		a, b    []int
		carry   int
		want    string
		sum     []int
		last    int
	}{
		{"0", nil, nil, 1, "0", nil, 1}, {"0", nil, []int{}, -1, "0", nil, -1}, {"2|2 3", []int{}, []int{}, -4, "2|2 3", nil, -4},
		{"0", []int{1}, []int{1}, -1, "0", []int{-1}, 1}, {"0", []int{1}, []int{1}, 1, "0", []int{1}, 1}, {"0", []int{-1}, []int{1}, 1, "0", []int{-1}, 1}, {"0", []int{-1}, []int{-1}, 1, "0", []int{1}, -1}, {"0", []int{-1, 1, 1}, []int{1, 1, -1}, -1, "0", []int{1, -1, -1}, 1}, {"0", []int{1, 1}, []int{-1, -1}, 1, "0", []int{-1, -1}, 1},
		{"1", []int{2}, []int{-1}, -1, "1", []int{2}, -1}, {"1", []int{-1}, []int{2}, -1, "1", []int{2}, -1}, {"1", []int{2}, []int{1}, -1, "1", []int{-2}, 2}, {"1", []int{2}, []int{2}, -1, "1", []int{-1}, 2}, {"1", []int{2}, []int{-2}, 1, "1", []int{-1}, 1}, {"1", []int{2}, []int{-2}, -1, "1", []int{1}, -1}, {"1", []int{2}, []int{2}, 2, "1", []int{2}, 2}, {"1", []int{-1}, []int{-1}, 2, "1", []int{2}, -1},
		{"2", []int{2}, []int{3}, -1, "2|2 -3|-2 3|-4 -5|2 3", []int{-6}, 7}, {"2", []int{3}, []int{2}, -1, "2|-2 3|2 -3|-4 -5|2 3", []int{-6}, 7}, {"2", []int{2}, []int{3}, 1, "2|2 -3|-2 3|-4 -5|2 3|6 -7", []int{6}, -8},
		{"3", []int{2}, []int{3}, 4, "3|2 -3|-2 3|-5 -6|-4 -7|4 7|-8 -9|2 3|4 -7|-11 -12", []int{-10}, -13}, {"3", []int{4}, []int{3}, -2, "3|-3 4|3 -4|-5 -6|2 -7|-2 7|-8 -9|3 4|-2 -7|-11 -12", []int{-10}, -13},
		// The carry goes on from bit 0.
		{"2", []int{2, -1}, []int{3, -1}, -1, "2|2 -3|-2 3|-4 -5|2 3", []int{-6, 7}, -1}, {"2", []int{-1, 2}, []int{-1, 3}, -1, "2|2 -3|-2 3|-4 -5|2 3", []int{-1, -6}, 7}, {"2", []int{2, 1}, []int{3, -1}, -1, "2|2 -3|-2 3|-4 -5|2 3", []int{-6, -7}, 7},
	} {
		got, sum, last, ok := impl.AddLits(readCircuit(t, c.circuit), c.a, c.b, c.carry)
		if !ok || textOfCircuit(got) != c.want || !slices.Equal(sum, c.sum) || last != c.last {
			t.Errorf("AddLits(%s, %v, %v, %d) = %s, %v, %d, %v, want %s, %v, %d", c.circuit, c.a, c.b, c.carry, textOfCircuit(got), sum, last, ok, c.want, c.sum, c.last)
		}
	}
}

func mustNotAdd(t *testing.T, c impl.Circuit, a, b []int, carry int) {
	t.Helper()
	if got, sum, last, ok := impl.AddLits(c, a, b, carry); ok || len(sum) != 0 || last != 0 || !noCircuit(got) {
		t.Errorf("AddLits(%.200s, %v, %v, %d) = %.200s, %v, %d, %v", textOfCircuit(c), a, b, carry, textOfCircuit(got), sum, last, ok)
	}
}

func TestP5AddLitsFailsForInvalid(t *testing.T) {
	for _, c := range badCircuits() {
		mustNotAdd(t, c, nil, nil, 1)
		mustNotAdd(t, c, []int{1}, []int{-1}, -1)
		mustNotAdd(t, c, []int{2}, []int{2}, 2)
	}
	for _, c := range []impl.Circuit{circuit(0), circuit(1), circuit(2, gate(2, 3)), circuit(30), filled(360)} {
		for _, bad := range noLiterals(c) {
			mustNotAdd(t, c, nil, nil, bad)
			mustNotAdd(t, c, []int{1}, []int{-1}, bad)
			mustNotAdd(t, c, []int{bad}, []int{-1}, 1)
			mustNotAdd(t, c, []int{-1}, []int{bad}, 1)
			mustNotAdd(t, c, []int{1, 1, bad}, []int{-1, 1, 1}, 1)
			mustNotAdd(t, c, []int{1, -1, 1}, []int{bad, 1, 1}, 1)
			mustNotAdd(t, c, []int{bad}, []int{bad}, -1)
		}
	}
	sizes := []int{0, 1, 2, 15, 16, 17, 18, 40, 1000}
	for _, n := range sizes {
		for _, m := range sizes {
			a, b := repeated(1, n), repeated(-1, m)
			if n != m || n > 16 {
				mustNotAdd(t, circuit(2), a, b, -1)
			} else if got, sum, last, ok := impl.AddLits(circuit(2), a, b, 1); !ok || !slices.Equal(sum, repeated(-1, n)) || last != 1 || !alikeCircuits(got, circuit(2)) {
				t.Errorf("AddLits of %d ones = %s, %v, %d, %v", n, textOfCircuit(got), sum, last, ok)
			}
		}
	}
}

// checkSum adds numbers and compares with the slow circuit, and with the sum of words for some inputs.
func checkSum(t *testing.T, c impl.Circuit, a, b []int, carry int, inputs [][]bool) {
	t.Helper()
	slow := slowOn(c)
	want, end := slow.add(a, b, carry)
	if len(slow.Gates) > 360 {
		mustNotAdd(t, c, a, b, carry)
		return
	}
	got, sum, last, ok := impl.AddLits(c, a, b, carry)
	if !ok || !alikeCircuits(got, slow.Circuit) || !slices.Equal(sum, want) || last != end {
		t.Fatalf("AddLits(%s, %v, %v, %d) = %s, %v, %d, %v, want %s, %v, %d", textOfCircuit(c), a, b, carry, textOfCircuit(got), sum, last, ok, textOfCircuit(slow.Circuit), want, end)
	}
	if !impl.CircuitOk(got) || !slices.Equal(got.Gates[:len(c.Gates)], c.Gates) {
		t.Errorf("AddLits(%s, %v, %v, %d) = %s, which is not valid or has other gates", textOfCircuit(c), a, b, carry, textOfCircuit(got))
	}
	for _, in := range inputs {
		lines := linesOf(got, in)
		n := wordIn(a, lines) + wordIn(b, lines) + truth(isTrue(carry, lines))
		if wordIn(append(slices.Clone(sum), last), lines) != n {
			t.Errorf("AddLits(%s, %v, %v, %d) = %s, %v, %d, which is not %d for %v", textOfCircuit(c), a, b, carry, textOfCircuit(got), sum, last, n, in)
		}
	}
}

// inputsOf returns some lists of inputs: all of them if there are few.
func (m *maker) inputsOf(c impl.Circuit) [][]bool {
	if c.Inputs <= 6 {
		return assignments(c.Inputs)
	}
	l := [][]bool{make([]bool, c.Inputs), slices.Repeat([]bool{true}, c.Inputs)}
	for range 20 {
		in := make([]bool, c.Inputs)
		rare := 1 + m.below(5)
		for i := range in {
			in[i] = m.below(1+rare) == 0
		}
		l = append(l, in)
	}
	return l
}

func TestP5AddLitsOfAny(t *testing.T) {
	m := maker{state: 89}
	for w := range 17 {
		for range 60 {
			c := m.circuit(m.below(7), m.below(8))
			checkSum(t, c, m.number(c, w), m.number(c, w), m.number(c, 1)[0], m.inputsOf(c))
		}
	}
	for w := range 15 {
		c := circuit(30)
		checkSum(t, c, inputLines(0, w), inputLines(w, w), 31, m.inputsOf(c))
		checkSum(t, c, inputLines(0, w+1), inputLines(w+1, w+1), -1, m.inputsOf(c))
	}
	checkSum(t, circuit(16), inputLines(0, 16), opposite(inputLines(0, 16)), 1, m.inputsOf(circuit(16)))
}

// An opMaking is what OpLits makes of one or two bits.
type opMaking struct {
	op      int
	circuit string
	a, b    []int
	want    string
	number  []int
}

func checkOps(t *testing.T, l []opMaking) {
	t.Helper()
	for _, c := range l {
		got, number, ok := impl.OpLits(readCircuit(t, c.circuit), c.op, c.a, c.b)
		if !ok || textOfCircuit(got) != c.want || !slices.Equal(number, c.number) {
			t.Errorf("OpLits(%s, %s, %v, %v) = %s, %v, %v, want %s, %v", c.circuit, termNames[c.op], c.a, c.b, textOfCircuit(got), number, ok, c.want, c.number)
		}
	}
}

func TestP5OpLitsOfOneBit(t *testing.T) {
	a, b := []int{2}, []int{3}
	minus, quotient := "2|2 3|-2 -3|-4 -5|2 -3|6 -7", "2|2 3|-2 -3|-4 -5|2 -3|6 -7|6 -8|2 8|-9 -10"
	checkOps(t, []opMaking{
		{impl.OpAdd, "2", a, b, "2|2 -3|-2 3|-4 -5|2 3", []int{-6}},
		{impl.OpSub, "2", a, b, minus, []int{6}},
		{impl.OpMul, "2", a, b, "2|2 3", []int{4}},
		// The remainder is made also where it is not asked for.
		{impl.OpDiv, "2", a, b, quotient, []int{-8}},
		{impl.OpRem, "2", a, b, quotient, []int{-11}},
		{impl.OpAnd, "2", a, b, "2|2 3", []int{4}},
		{impl.OpOr, "2", a, b, "2|-2 -3", []int{-4}},
		{impl.OpXor, "2", a, b, "2|2 -3|-2 3|-4 -5", []int{-6}},
		{impl.OpShl, "2", a, b, "2|2 -3", []int{4}},
		{impl.OpShr, "2", a, b, "2|2 -3", []int{4}},
		{impl.OpSar, "2", a, b, "2|2 3|2 -3|-4 -5", []int{-6}},
		{impl.OpEq, "2", a, b, "2|2 -3|-2 3|-4 -5", []int{6}},
		{impl.OpLess, "2", a, b, minus, []int{8}},
		{impl.OpBelow, "2", a, b, "2|-2 -3|2 3|-4 -5|-2 3|6 -7", []int{8}},
		// Equal and opposite literals, constants, and division by 0.
		{impl.OpSub, "1", a, a, "1", []int{-1}}, {impl.OpXor, "1", a, a, "1", []int{-1}}, {impl.OpXor, "1", a, []int{-2}, "1", []int{1}}, {impl.OpEq, "1", a, a, "1", []int{1}}, {impl.OpEq, "1", a, []int{-2}, "1", []int{-1}}, {impl.OpLess, "1", a, a, "1", []int{-1}}, {impl.OpLess, "1", a, []int{-2}, "1", []int{-2}}, {impl.OpBelow, "1", a, []int{-2}, "1", []int{2}},
		{impl.OpDiv, "1", a, []int{-1}, "1", []int{1}}, {impl.OpRem, "1", a, []int{-1}, "1", []int{2}}, {impl.OpDiv, "1", a, []int{1}, "1", []int{2}}, {impl.OpRem, "1", a, []int{1}, "1", []int{-1}}, {impl.OpDiv, "0", []int{-1}, []int{-1}, "0", []int{1}}, {impl.OpRem, "0", []int{1}, []int{-1}, "0", []int{1}},
		{impl.OpShl, "1", a, []int{-1}, "1", []int{2}}, {impl.OpShl, "1", a, []int{1}, "1", []int{-1}}, {impl.OpSar, "1", a, []int{1}, "1", []int{2}}, {impl.OpMul, "1", a, a, "1", []int{2}}, {impl.OpAdd, "1", a, []int{1}, "1", []int{-2}},
	})
}

func TestP5OpLitsOfTwoBits(t *testing.T) {
	a, b := []int{2, 3}, []int{4, 5}
	checkOps(t, []opMaking{
		{impl.OpMul, "4", a, b, "4|2 4|3 4|2 5|7 -8|-7 8|-9 -10|7 8", []int{6, -11}},
		{impl.OpAnd, "4", a, b, "4|2 4|3 5", []int{6, 7}},
		{impl.OpOr, "4", a, b, "4|-2 -4|-3 -5", []int{-6, -7}},
		{impl.OpShl, "4", a, b, "4|2 -4|2 4|3 -4|-7 -8|-5 6|-5 -9", []int{10, 11}},
		{impl.OpShr, "4", a, b, "4|3 4|2 -4|-6 -7|3 -4|-5 -8|-5 9", []int{10, 11}},
		{impl.OpEq, "4", a, b, "4|2 -4|-2 4|-6 -7|3 -5|-3 5|-9 -10|8 11", []int{12}},
		{impl.OpShl, "2", a, []int{1, -1}, "2", []int{-1, 2}}, {impl.OpShr, "2", a, []int{1, -1}, "2", []int{3, -1}}, {impl.OpSar, "2", a, []int{1, -1}, "2", []int{3, 3}}, {impl.OpSar, "2", a, []int{-1, 1}, "2", []int{3, 3}}, {impl.OpSar, "2", a, []int{-1, -1}, "2", []int{2, 3}}, {impl.OpShl, "2", a, []int{-1, 1}, "2", []int{-1, -1}},
		{impl.OpDiv, "2", a, []int{-1, -1}, "2", []int{1, 1}}, {impl.OpRem, "2", a, []int{-1, -1}, "2", []int{2, 3}}, {impl.OpMul, "2", a, []int{-1, 1}, "2", []int{-1, 2}}, {impl.OpMul, "2", a, []int{-1, -1}, "2", []int{-1, -1}},
	})
}

func mustNotOperate(t *testing.T, c impl.Circuit, op int, a, b []int) {
	t.Helper()
	if got, number, ok := impl.OpLits(c, op, a, b); ok || len(number) != 0 || !noCircuit(got) {
		t.Errorf("OpLits(%.200s, %d, %v, %v) = %.200s, %v, %v", textOfCircuit(c), op, a, b, textOfCircuit(got), number, ok)
	}
}

func TestP5OpLitsFailsForInvalid(t *testing.T) {
	for _, op := range append(slices.Clone(oddInts), slices.Concat(noOps, []int{1, 2, 17, 18, 19, 20, 21, 22})...) {
		if op < impl.OpAdd || op > impl.OpBelow {
			mustNotOperate(t, circuit(2), op, []int{2}, []int{3})
			mustNotOperate(t, circuit(2), op, []int{1, 1}, []int{-1, 1})
		}
	}
	for _, op := range binaryOps {
		for _, c := range badCircuits() {
			mustNotOperate(t, c, op, []int{1}, []int{-1})
			mustNotOperate(t, c, op, []int{2}, []int{2})
			mustNotOperate(t, c, op, nil, nil)
		}
		for _, c := range []impl.Circuit{circuit(0), circuit(2, gate(2, 3)), filled(360)} {
			for _, bad := range noLiterals(c) {
				mustNotOperate(t, c, op, []int{bad}, []int{1})
				mustNotOperate(t, c, op, []int{-1}, []int{bad})
				mustNotOperate(t, c, op, []int{-1, bad, 1}, []int{-1, -1, -1})
				mustNotOperate(t, c, op, []int{-1, -1, -1}, []int{-1, -1, bad})
				mustNotOperate(t, c, op, []int{bad}, []int{bad})
			}
		}
		sizes := []int{0, 1, 2, 14, 15, 16, 17, 400}
		for _, n := range sizes {
			for _, m := range sizes {
				if n != m || n == 0 || n > 15 {
					mustNotOperate(t, circuit(2), op, repeated(1, n), repeated(-1, m))
				}
			}
		}
	}
}

// checkOp compares with the slow circuit, and with words for some inputs. It reports whether there is room.
func checkOp(t *testing.T, c impl.Circuit, op int, a, b []int, inputs [][]bool) bool {
	t.Helper()
	slow := slowOn(c)
	want := slow.operate(op, a, b)
	if len(slow.Gates) > 360 {
		mustNotOperate(t, c, op, a, b)
		return false
	}
	got, number, ok := impl.OpLits(c, op, a, b)
	if !ok || !alikeCircuits(got, slow.Circuit) || !slices.Equal(number, want) {
		t.Fatalf("OpLits(%s, %s, %v, %v) = %s, %v, %v, want %s, %v", textOfCircuit(c), termNames[op], a, b, textOfCircuit(got), number, ok, textOfCircuit(slow.Circuit), want)
	}
	if !impl.CircuitOk(got) || !slices.Equal(got.Gates[:len(c.Gates)], c.Gates) {
		t.Errorf("OpLits(%s, %s, %v, %v) = %s, which is not valid or has other gates", textOfCircuit(c), termNames[op], a, b, textOfCircuit(got))
	}
	for _, in := range inputs {
		lines := linesOf(got, in)
		if n := binary(op, len(a), wordIn(a, lines), wordIn(b, lines)); wordIn(number, lines) != n {
			t.Errorf("OpLits(%s, %s, %v, %v) = %s, %v, which is not %d for %v", textOfCircuit(c), termNames[op], a, b, textOfCircuit(got), number, n, in)
		}
	}
	return true
}

// TestP5OpLitsOfAllWords has numbers of inputs alone.
func TestP5OpLitsOfAllWords(t *testing.T) {
	m := maker{state: 97}
	for _, op := range binaryOps {
		for w := 1; w <= 15; w++ {
			c := circuit(2 * w)
			inputs := m.inputsOf(c)
			if w == 4 {
				inputs = assignments(8)
			}
			room := checkOp(t, c, op, inputLines(0, w), inputLines(w, w), inputs)
			checkOp(t, c, op, inputLines(w, w), opposite(inputLines(0, w)), inputs)
			checkOp(t, circuit(w), op, inputLines(0, w), inputLines(0, w), m.inputsOf(circuit(w)))
			checkOp(t, circuit(w), op, inputLines(0, w), opposite(inputLines(0, w)), m.inputsOf(circuit(w)))
			if long := op >= impl.OpMul && op <= impl.OpRem; !room && (!long || w < 5) || room && long && w == 15 {
				t.Errorf("%s of %d bits: room %v", termNames[op], w, room)
			}
		}
	}
}

// TestP5OpLitsOfConstants checks that operations of words need no gates.
func TestP5OpLitsOfConstants(t *testing.T) {
	few, full := circuit(2, gate(2, 3)), filled(360)
	for _, op := range binaryOps {
		for w := 1; w <= 15; w++ {
			words := someWords(w)
			for i, x := range words {
				for j, y := range words {
					if w > 3 && (i+j+w+op)%4 > 0 && y != 0 {
						continue
					}
					n := binary(op, w, x, y)
					v := w
					if op >= impl.OpEq {
						v = 1
					}
					c := few
					if i == j {
						c = full
					}
					got, number, ok := impl.OpLits(c, op, numberFor(w, x), numberFor(w, y))
					if !ok || !alikeCircuits(got, c) || !slices.Equal(number, numberFor(v, n)) {
						t.Errorf("OpLits(%s) of %d and %d, %d bits = %v, %v, want %d", termNames[op], x, y, w, number, ok, n)
					}
				}
			}
		}
	}
}

// TestP5OpLitsOfAny has numbers with constants, equal and opposite literals.
func TestP5OpLitsOfAny(t *testing.T) {
	m := maker{state: 101}
	for _, op := range binaryOps {
		room := map[bool]int{}
		for w := 1; w <= 15; w++ {
			for i := range 30 {
				c := m.circuit(m.below(7), m.below(8))
				a, b := m.number(c, w), m.number(c, w)
				switch i % 6 {
				case 0:
					b = numberFor(w, m.below(power(w)))
				case 1:
					a = numberFor(w, m.below(power(w)))
				case 2:
					b = numberFor(w, m.below(min(w+2, power(w))))
				}
				room[checkOp(t, c, op, a, b, m.inputsOf(c))]++
			}
		}
		if room[true] < 200 {
			t.Errorf("%s has room in %v", termNames[op], room)
		}
	}
}

// TestP5OperationsThatHaveRoom has circuits with just as many gates as there is room for, and with one more.
func TestP5OperationsThatHaveRoom(t *testing.T) {
	m := maker{state: 103}
	for _, op := range binaryOps {
		for _, w := range []int{1, 2, 3, 5} {
			a, b := inputLines(20, w), inputLines(12, w)
			room := map[bool]int{}
			for gates := 360; gates >= 200 && room[true] < 20; gates-- {
				c := filled(gates)
				room[checkOp(t, c, op, a, b, m.inputsOf(c)[:2])]++
				room[checkOp(t, c, op, a, opposite(b), m.inputsOf(c)[2:4])]++
			}
			if room[false] == 0 || room[true] == 0 && (op < impl.OpMul || op > impl.OpRem) {
				t.Errorf("%s of %d bits has room in %v", termNames[op], w, room)
			}
		}
	}
	for w := range 6 {
		for gates := 300; gates <= 360; gates++ {
			c := filled(gates)
			checkSum(t, c, inputLines(20, w), inputLines(10, w), 31, m.inputsOf(c)[:3])
		}
	}
}
