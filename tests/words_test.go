package tests

import (
	"math"
	"testing"

	"loop.example/g03219/impl"
)

// noWidths are ints that are no width.
var noWidths = []int{0, -1, -16, 17, 18, 32, 63, 64, 65, 1 << 32, 1<<32 + 4, math.MaxInt, math.MinInt, math.MinInt + 1}

// noOps are ints that are no operation of chapter 2.
var noOps = []int{0, -1, -14, 17, 18, 22, 100, 1<<32 + 3, math.MaxInt, math.MinInt}

// farInts are ints that are words of no width.
var farInts = []int{-1, -2, -32768, -65536, 65536, 1 << 32, 1<<32 + 1, math.MaxInt, math.MaxInt - 1, math.MinInt, math.MinInt + 1}

// power returns 2^k without shifts, so that a wrong shift in the program is not repeated here.
func power(k int) int {
	p := 1
	for range k {
		p *= 2
	}
	return p
}

func modulo(n, m int) int {
	return (n%m + m) % m
}

func floorDivide(n, m int) int {
	return (n - modulo(n, m)) / m
}

func signed(w, a int) int {
	if a < power(w-1) {
		return a
	}
	return a - power(w)
}

// bitwise returns the word whose bits are 1 where the number of ones of a and b is from least to most.
func bitwise(w, a, b, least, most int) int {
	sum := 0
	for k := range w {
		n := a/power(k)%2 + b/power(k)%2
		if n >= least && n <= most {
			sum += power(k)
		}
	}
	return sum
}

func truth(b bool) int {
	if b {
		return 1
	}
	return 0
}

// binary is ApplyBinary of two words as the document defines it, by plain arithmetic.
func binary(op, w, a, b int) int {
	switch op {
	case impl.OpAdd:
		return modulo(a+b, power(w))
	case impl.OpSub:
		return modulo(a-b, power(w))
	case impl.OpMul:
		return modulo(a*b, power(w))
	case impl.OpDiv:
		if b == 0 {
			return power(w) - 1
		}
		return floorDivide(a, b)
	case impl.OpRem:
		if b == 0 {
			return a
		}
		return modulo(a, b)
	case impl.OpAnd:
		return bitwise(w, a, b, 2, 2)
	case impl.OpOr:
		return bitwise(w, a, b, 1, 2)
	case impl.OpXor:
		return bitwise(w, a, b, 1, 1)
	case impl.OpShl:
		return modulo(a*power(min(b, w)), power(w))
	case impl.OpShr:
		return floorDivide(a, power(min(b, w)))
	case impl.OpSar:
		return modulo(floorDivide(signed(w, a), power(min(b, w-1))), power(w))
	case impl.OpEq:
		return truth(a == b)
	case impl.OpLess:
		return truth(a < b)
	case impl.OpBelow:
		return truth(signed(w, a) < signed(w, b))
	}
	return -1
}

// someWords returns all words of a small width, and those at the edges of a large one.
func someWords(w int) []int {
	if w <= 5 {
		l := make([]int, power(w))
		for a := range l {
			l[a] = a
		}
		return l
	}
	most, half := power(w)-1, power(w-1)
	return []int{
		0, 1, 2, 3, 5, w - 1, w, w + 1, 2*w + 1, most / 3, most / 5,
		half - 2, half - 1, half, half + 1, half + w, most - half/2, most - 2, most - 1, most,
	}
}

func TestP2WordOk(t *testing.T) {
	for w := 1; w <= 16; w++ {
		for _, a := range someWords(w) {
			if !impl.WordOk(w, a) {
				t.Errorf("WordOk(%d, %d) = false", w, a)
			}
		}
		for _, a := range append(farInts, power(w), power(w)+1, 2*power(w)-1) {
			if impl.WordOk(w, a) {
				t.Errorf("WordOk(%d, %d) = true", w, a)
			}
		}
	}
	for _, w := range noWidths {
		for _, a := range append(farInts, 0, 1, 15) {
			if impl.WordOk(w, a) {
				t.Errorf("WordOk(%d, %d) = true", w, a)
			}
		}
	}
}

func TestP2WordOf(t *testing.T) {
	cases := [][3]int{
		{1, 0, 0}, {1, 1, 1}, {1, 2, 0}, {1, -1, 1}, {3, -1, 7}, {3, 8, 0}, {3, -8, 0}, {3, -9, 7}, {4, 100, 4}, {4, -100, 12},
		{16, 65535, 65535}, {16, 65536, 0}, {16, -1, 65535}, {16, -65536, 0}, {16, -65537, 65535},
		{1, math.MaxInt, 1}, {16, math.MaxInt, 65535}, {1, math.MinInt, 0}, {16, math.MinInt, 0}, {16, math.MinInt + 1, 1},
	}
	for _, c := range cases {
		if got := impl.WordOf(c[0], c[1]); got != c[2] {
			t.Errorf("WordOf(%d, %d) = %d, want %d", c[0], c[1], got, c[2])
		}
	}
	for w := 1; w <= 16; w++ {
		for n := -70000; n <= 70000; n += 7 {
			if got := impl.WordOf(w, n); got != modulo(n, power(w)) {
				t.Errorf("WordOf(%d, %d) = %d", w, n, got)
			}
		}
	}
	for _, w := range noWidths {
		for _, n := range append(farInts, 0, 1) {
			if got := impl.WordOf(w, n); got != -1 {
				t.Errorf("WordOf(%d, %d) = %d, want -1", w, n, got)
			}
		}
	}
}

func TestP2SignedOf(t *testing.T) {
	cases := [][3]int{
		{1, 0, 0}, {1, 1, -1}, {3, 3, 3}, {3, 4, -4}, {3, 5, -3}, {3, 7, -1}, {8, 127, 127}, {8, 128, -128},
		{16, 32767, 32767}, {16, 32768, -32768}, {16, 65535, -1},
	}
	for _, c := range cases {
		if got := impl.SignedOf(c[0], c[1]); got != c[2] {
			t.Errorf("SignedOf(%d, %d) = %d, want %d", c[0], c[1], got, c[2])
		}
	}
	for w := 1; w <= 16; w++ {
		for _, a := range someWords(w) {
			if got := impl.SignedOf(w, a); got != signed(w, a) {
				t.Errorf("SignedOf(%d, %d) = %d", w, a, got)
			}
		}
		for _, a := range append(farInts, power(w)) {
			if got := impl.SignedOf(w, a); got != 0 {
				t.Errorf("SignedOf(%d, %d) = %d, want 0", w, a, got)
			}
		}
	}
	for _, w := range noWidths {
		if got := impl.SignedOf(w, 1); got != 0 {
			t.Errorf("SignedOf(%d, 1) = %d, want 0", w, got)
		}
	}
}

func TestP2ApplyUnary(t *testing.T) {
	cases := [][4]int{
		{impl.OpNot, 1, 0, 1}, {impl.OpNot, 1, 1, 0}, {impl.OpNot, 4, 5, 10}, {impl.OpNot, 16, 0, 65535}, {impl.OpNot, 16, 65535, 0},
		{impl.OpNeg, 1, 0, 0}, {impl.OpNeg, 1, 1, 1}, {impl.OpNeg, 4, 5, 11}, {impl.OpNeg, 4, 8, 8}, {impl.OpNeg, 16, 0, 0},
		{impl.OpNeg, 16, 1, 65535}, {impl.OpNeg, 16, 65535, 1}, {impl.OpNeg, 16, 32768, 32768},
	}
	for _, c := range cases {
		if got := impl.ApplyUnary(c[0], c[1], c[2]); got != c[3] {
			t.Errorf("ApplyUnary(%d, %d, %d) = %d, want %d", c[0], c[1], c[2], got, c[3])
		}
	}
	for w := 1; w <= 16; w++ {
		for _, a := range someWords(w) {
			if got := impl.ApplyUnary(impl.OpNot, w, a); got != power(w)-1-a {
				t.Errorf("OpNot with %d bits of %d = %d", w, a, got)
			}
			if got := impl.ApplyUnary(impl.OpNeg, w, a); got != modulo(-a, power(w)) {
				t.Errorf("OpNeg with %d bits of %d = %d", w, a, got)
			}
		}
	}
}

func TestP2ApplyUnaryInvalid(t *testing.T) {
	for op := -2; op <= 24; op++ {
		for _, w := range noWidths {
			wantNone(t, "ApplyUnary", impl.ApplyUnary(op, w, 0), op, w, 0)
			wantNone(t, "ApplyUnary", impl.ApplyUnary(op, w, 1), op, w, 1)
		}
		for _, a := range append(farInts, 8, 9) {
			wantNone(t, "ApplyUnary", impl.ApplyUnary(op, 3, a), op, 3, a)
		}
		if op != impl.OpNot && op != impl.OpNeg {
			wantNone(t, "ApplyUnary", impl.ApplyUnary(op, 3, 5), op, 3, 5)
		}
	}
	for _, op := range noOps {
		wantNone(t, "ApplyUnary", impl.ApplyUnary(op, 3, 5), op, 3, 5)
	}
}

func wantNone(t *testing.T, name string, got int, args ...int) {
	t.Helper()
	if got != -1 {
		t.Errorf("%s%v = %d, want -1", name, args, got)
	}
}

func TestP2ApplyBinaryExamples(t *testing.T) {
	cases := [][5]int{
		{impl.OpAdd, 4, 7, 8, 15}, {impl.OpAdd, 4, 8, 8, 0}, {impl.OpAdd, 16, 65535, 65535, 65534},
		{impl.OpSub, 4, 3, 5, 14}, {impl.OpSub, 4, 5, 3, 2}, {impl.OpSub, 16, 0, 65535, 1},
		{impl.OpMul, 4, 3, 5, 15}, {impl.OpMul, 4, 7, 7, 1}, {impl.OpMul, 16, 65535, 65535, 1}, {impl.OpMul, 16, 256, 256, 0},
		{impl.OpDiv, 4, 15, 4, 3}, {impl.OpDiv, 3, 5, 0, 7}, {impl.OpDiv, 1, 0, 0, 1}, {impl.OpDiv, 16, 0, 0, 65535},
		{impl.OpDiv, 16, 65535, 1, 65535}, {impl.OpDiv, 4, 3, 15, 0},
		{impl.OpRem, 4, 15, 4, 3}, {impl.OpRem, 3, 5, 0, 5}, {impl.OpRem, 16, 65535, 0, 65535}, {impl.OpRem, 4, 15, 15, 0},
		{impl.OpAnd, 4, 12, 10, 8}, {impl.OpOr, 4, 12, 10, 14}, {impl.OpXor, 4, 12, 10, 6}, {impl.OpXor, 16, 65535, 65535, 0},
		{impl.OpShl, 4, 3, 0, 3}, {impl.OpShl, 4, 3, 1, 6}, {impl.OpShl, 4, 3, 3, 8}, {impl.OpShl, 4, 3, 4, 0}, {impl.OpShl, 4, 15, 15, 0},
		{impl.OpShl, 16, 1, 15, 32768}, {impl.OpShl, 16, 1, 16, 0}, {impl.OpShl, 16, 1, 64, 0}, {impl.OpShl, 16, 65535, 65535, 0},
		{impl.OpShr, 4, 12, 0, 12}, {impl.OpShr, 4, 12, 2, 3}, {impl.OpShr, 4, 12, 3, 1}, {impl.OpShr, 4, 12, 4, 0},
		{impl.OpShr, 16, 65535, 15, 1}, {impl.OpShr, 16, 65535, 16, 0}, {impl.OpShr, 16, 65535, 65535, 0},
		{impl.OpSar, 4, 12, 0, 12}, {impl.OpSar, 4, 12, 1, 14}, {impl.OpSar, 4, 8, 3, 15}, {impl.OpSar, 4, 8, 4, 15}, {impl.OpSar, 4, 8, 15, 15},
		{impl.OpSar, 4, 7, 1, 3}, {impl.OpSar, 4, 7, 4, 0}, {impl.OpSar, 4, 7, 15, 0}, {impl.OpSar, 1, 1, 1, 1}, {impl.OpSar, 1, 0, 1, 0},
		{impl.OpSar, 16, 32768, 15, 65535}, {impl.OpSar, 16, 32768, 65535, 65535}, {impl.OpSar, 16, 32769, 1, 49152},
		{impl.OpEq, 4, 9, 9, 1}, {impl.OpEq, 4, 9, 8, 0}, {impl.OpEq, 16, 0, 0, 1},
		{impl.OpLess, 4, 3, 9, 1}, {impl.OpLess, 4, 9, 3, 0}, {impl.OpLess, 4, 9, 9, 0}, {impl.OpLess, 16, 0, 65535, 1},
		{impl.OpBelow, 4, 3, 9, 0}, {impl.OpBelow, 4, 9, 3, 1}, {impl.OpBelow, 4, 9, 9, 0}, {impl.OpBelow, 4, 8, 15, 1}, {impl.OpBelow, 4, 15, 8, 0},
		{impl.OpBelow, 1, 1, 0, 1}, {impl.OpBelow, 1, 0, 1, 0}, {impl.OpBelow, 16, 32768, 32767, 1}, {impl.OpBelow, 16, 65535, 0, 1},
	}
	for _, c := range cases {
		if got := impl.ApplyBinary(c[0], c[1], c[2], c[3]); got != c[4] {
			t.Errorf("ApplyBinary(%s, %d, %d, %d) = %d, want %d", impl.OpName(c[0]), c[1], c[2], c[3], got, c[4])
		}
	}
}

func TestP2ApplyBinary(t *testing.T) {
	for w := 1; w <= 16; w++ {
		words := someWords(w)
		for op := -1; op <= 23; op++ {
			for _, a := range words {
				for _, b := range words {
					want := binary(op, w, a, b)
					if got := impl.ApplyBinary(op, w, a, b); got != want {
						t.Errorf("ApplyBinary(%d, %d, %d, %d) = %d, want %d", op, w, a, b, got, want)
					}
				}
			}
		}
	}
}

func TestP2ApplyBinaryInvalid(t *testing.T) {
	for op := impl.OpNot; op <= impl.OpBelow; op++ {
		for _, w := range noWidths {
			wantNone(t, "ApplyBinary", impl.ApplyBinary(op, w, 0, 0), op, w, 0, 0)
			wantNone(t, "ApplyBinary", impl.ApplyBinary(op, w, 1, 1), op, w, 1, 1)
		}
		for w := 1; w <= 16; w++ {
			for _, a := range append(farInts, power(w)) {
				wantNone(t, "ApplyBinary", impl.ApplyBinary(op, w, a, 1), op, w, a, 1)
				wantNone(t, "ApplyBinary", impl.ApplyBinary(op, w, 1, a), op, w, 1, a)
				wantNone(t, "ApplyBinary", impl.ApplyBinary(op, w, a, a), op, w, a, a)
			}
		}
	}
	for _, op := range noOps {
		wantNone(t, "ApplyBinary", impl.ApplyBinary(op, 4, 3, 2), op, 4, 3, 2)
	}
}

func TestP2ResultWidth(t *testing.T) {
	for w := 1; w <= 16; w++ {
		for op := impl.OpNot; op <= impl.OpSar; op++ {
			if got := impl.ResultWidth(op, w); got != w {
				t.Errorf("ResultWidth(%d, %d) = %d, want %d", op, w, got, w)
			}
		}
		for op := impl.OpEq; op <= impl.OpBelow; op++ {
			if got := impl.ResultWidth(op, w); got != 1 {
				t.Errorf("ResultWidth(%d, %d) = %d, want 1", op, w, got)
			}
		}
		for _, op := range noOps {
			if got := impl.ResultWidth(op, w); got != 0 {
				t.Errorf("ResultWidth(%d, %d) = %d, want 0", op, w, got)
			}
		}
	}
	for _, w := range noWidths {
		for op := -1; op <= 17; op++ {
			if got := impl.ResultWidth(op, w); got != 0 {
				t.Errorf("ResultWidth(%d, %d) = %d, want 0", op, w, got)
			}
		}
	}
}

func TestP2OpNames(t *testing.T) {
	names := []string{"not", "neg", "add", "sub", "mul", "div", "rem", "and", "or", "xor", "shl", "shr", "sar", "eq", "less", "below"}
	for i, name := range names {
		if got := impl.OpName(i + 1); got != name {
			t.Errorf("OpName(%d) = %q, want %q", i+1, got, name)
		}
		if got := impl.OpOf(name); got != i+1 {
			t.Errorf("OpOf(%q) = %d, want %d", name, got, i+1)
		}
	}
	for _, op := range noOps {
		if got := impl.OpName(op); got != "" {
			t.Errorf("OpName(%d) = %q, want none", op, got)
		}
	}
	others := []string{"", " ", "Not", "ADD", "ad", "addd", " add", "add ", "add\n", "if", "join", "cut", "grow", "stretch", "var", "const", "below\x00", "\xff", "3"}
	for _, name := range others {
		if got := impl.OpOf(name); got != 0 {
			t.Errorf("OpOf(%q) = %d, want 0", name, got)
		}
	}
}

func TestP2Constants(t *testing.T) {
	ops := []int{
		impl.OpNot, impl.OpNeg, impl.OpAdd, impl.OpSub, impl.OpMul, impl.OpDiv, impl.OpRem, impl.OpAnd,
		impl.OpOr, impl.OpXor, impl.OpShl, impl.OpShr, impl.OpSar, impl.OpEq, impl.OpLess, impl.OpBelow,
	}
	for i, op := range ops {
		if op != i+1 {
			t.Errorf("operation %d has the number %d", i+1, op)
		}
	}
	if impl.MaxWidth != 16 {
		t.Errorf("MaxWidth = %d", impl.MaxWidth)
	}
}

// cut is CutWord as the document defines it, bit by bit.
func cut(a, low, n int) int {
	sum := 0
	for k := range n {
		sum += a / power(low+k) % 2 * power(k)
	}
	return sum
}

func TestP2CutWord(t *testing.T) {
	cases := [][5]int{
		{4, 13, 1, 2, 2}, {4, 13, 0, 4, 13}, {4, 13, 3, 1, 1}, {4, 13, 1, 1, 0}, {1, 1, 0, 1, 1}, {16, 65535, 0, 16, 65535}, {16, 32768, 15, 1, 1},
		{4, 13, 0, 5, -1}, {4, 13, 4, 1, -1}, {4, 13, 3, 2, -1}, {4, 13, 1, 4, -1}, {4, 13, 0, 0, -1}, {4, 13, 4, 0, -1}, {4, 13, 0, -1, -1},
		{4, 13, -1, 2, -1}, {4, 13, -1, 5, -1}, {4, 16, 0, 1, -1}, {4, -1, 0, 1, -1}, {0, 0, 0, 1, -1}, {17, 0, 0, 1, -1},
		{4, 13, math.MaxInt, 1, -1}, {4, 13, 1, math.MaxInt, -1}, {4, 13, math.MaxInt, math.MaxInt, -1}, {4, 13, math.MinInt, 1, -1},
		{4, 13, 1, math.MinInt, -1}, {4, 13, math.MinInt, math.MaxInt, -1}, {16, 5, math.MaxInt, 2, -1}, {4, 13, math.MaxInt, math.MinInt, -1},
	}
	for _, c := range cases {
		if got := impl.CutWord(c[0], c[1], c[2], c[3]); got != c[4] {
			t.Errorf("CutWord(%d, %d, %d, %d) = %d, want %d", c[0], c[1], c[2], c[3], got, c[4])
		}
	}
	for w := 1; w <= 16; w++ {
		for _, a := range someWords(w) {
			for low := -2; low <= 18; low++ {
				for n := -2; n <= 18; n++ {
					want := -1
					if low >= 0 && n >= 1 && low+n <= w {
						want = cut(a, low, n)
					}
					if got := impl.CutWord(w, a, low, n); got != want {
						t.Errorf("CutWord(%d, %d, %d, %d) = %d, want %d", w, a, low, n, got, want)
					}
				}
			}
		}
		for _, a := range append(farInts, power(w)) {
			wantNone(t, "CutWord", impl.CutWord(w, a, 0, 1), w, a, 0, 1)
		}
	}
	for _, w := range noWidths {
		wantNone(t, "CutWord", impl.CutWord(w, 0, 0, 1), w, 0, 0, 1)
	}
}

func TestP2JoinWords(t *testing.T) {
	cases := [][5]int{
		{2, 2, 2, 1, 9}, {1, 0, 1, 0, 0}, {1, 1, 1, 1, 3}, {1, 1, 15, 0, 32768}, {15, 32767, 1, 1, 65535}, {8, 255, 8, 255, 65535},
		{8, 1, 9, 1, -1}, {16, 0, 1, 0, -1}, {1, 0, 16, 0, -1}, {16, 1, 16, 1, -1}, {2, 4, 2, 1, -1}, {2, 1, 2, 4, -1},
		{2, -1, 2, 1, -1}, {2, 1, 2, -1, -1}, {0, 0, 4, 5, -1}, {4, 5, 0, 0, -1}, {-1, 0, 4, 1, -1}, {4, 1, -1, 0, -1},
		{math.MaxInt, 1, 1, 1, -1}, {1, 1, math.MaxInt, 1, -1}, {math.MaxInt, 1, math.MaxInt, 1, -1}, {math.MinInt, 0, math.MinInt, 0, -1},
	}
	for _, c := range cases {
		if got := impl.JoinWords(c[0], c[1], c[2], c[3]); got != c[4] {
			t.Errorf("JoinWords(%d, %d, %d, %d) = %d, want %d", c[0], c[1], c[2], c[3], got, c[4])
		}
	}
	for w := 1; w <= 16; w++ {
		for v := 1; v <= 16; v++ {
			for _, a := range someWords(w) {
				for _, b := range someWords(v) {
					want := -1
					if w+v <= 16 {
						want = a*power(v) + b
					}
					if got := impl.JoinWords(w, a, v, b); got != want {
						t.Errorf("JoinWords(%d, %d, %d, %d) = %d, want %d", w, a, v, b, got, want)
					}
				}
			}
		}
	}
}

func TestP2WidenWord(t *testing.T) {
	cases := []struct {
		w, a, n int
		signed  bool
		want    int
	}{
		{2, 2, 4, true, 14}, {2, 2, 4, false, 2}, {2, 1, 4, true, 1}, {1, 1, 16, true, 65535}, {1, 1, 16, false, 1}, {1, 0, 16, true, 0},
		{4, 9, 4, true, 9}, {4, 9, 4, false, 9}, {16, 65535, 16, true, 65535}, {8, 128, 9, true, 384}, {8, 127, 16, true, 127},
		{4, 9, 3, true, -1}, {4, 9, 3, false, -1}, {4, 9, 17, true, -1}, {4, 9, 17, false, -1}, {4, 9, 0, true, -1}, {4, 9, -1, false, -1},
		{4, 16, 8, true, -1}, {4, 16, 8, false, -1}, {4, -1, 8, true, -1}, {0, 0, 8, true, -1}, {17, 0, 17, false, -1}, {-1, 0, 8, false, -1},
		{4, 9, math.MaxInt, true, -1}, {4, 9, math.MinInt, false, -1}, {math.MinInt, 0, 4, true, -1}, {math.MaxInt, 0, math.MaxInt, false, -1},
	}
	for _, c := range cases {
		if got := impl.WidenWord(c.w, c.a, c.n, c.signed); got != c.want {
			t.Errorf("WidenWord(%d, %d, %d, %v) = %d, want %d", c.w, c.a, c.n, c.signed, got, c.want)
		}
	}
	for w := 1; w <= 16; w++ {
		for _, a := range someWords(w) {
			for n := -1; n <= 18; n++ {
				plain, stretched := -1, -1
				if n >= w && n <= 16 {
					plain, stretched = a, modulo(signed(w, a), power(n))
				}
				if got := impl.WidenWord(w, a, n, false); got != plain {
					t.Errorf("WidenWord(%d, %d, %d, false) = %d, want %d", w, a, n, got, plain)
				}
				if got := impl.WidenWord(w, a, n, true); got != stretched {
					t.Errorf("WidenWord(%d, %d, %d, true) = %d, want %d", w, a, n, got, stretched)
				}
			}
		}
	}
}
