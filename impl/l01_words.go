package impl

import (
	"strconv"
	"strings"
)

const MaxWidth = 16

const (
	OpNot   = 1
	OpNeg   = 2
	OpAdd   = 3
	OpSub   = 4
	OpMul   = 5
	OpDiv   = 6
	OpRem   = 7
	OpAnd   = 8
	OpOr    = 9
	OpXor   = 10
	OpShl   = 11
	OpShr   = 12
	OpSar   = 13
	OpEq    = 14
	OpLess  = 15
	OpBelow = 16
)

const maxName = 8

// An operation's number is its index; 0 is no operation, so its name is empty.
var opNames = [...]string{
	"", "not", "neg", "add", "sub", "mul", "div", "rem",
	"and", "or", "xor", "shl", "shr", "sar", "eq", "less", "below",
}

func FormatInt(n int) string {
	return strconv.Itoa(n)
}

func ParseInt(s string) (int, bool) {
	n, err := strconv.Atoi(s)
	// Atoi also reads texts that FormatInt never writes, such as "+1", "-0" and "007".
	if err != nil || FormatInt(n) != s {
		return 0, false
	}
	return n, true
}

func Words(s string) []string {
	var words []string
	for _, part := range strings.Split(s, " ") {
		if part != "" {
			words = append(words, part)
		}
	}
	return words
}

func SplitLines(s string) []string {
	lines := strings.Split(s, "\n")
	last := len(lines) - 1
	if lines[last] == "" {
		return lines[:last]
	}
	return lines
}

func Join(l []string, by string) string {
	return strings.Join(l, by)
}

func FormatInts(l []int) string {
	texts := make([]string, 0, len(l))
	for _, n := range l {
		texts = append(texts, FormatInt(n))
	}
	return Join(texts, " ")
}

func ParseInts(s string) ([]int, bool) {
	if s == "" {
		return nil, true
	}
	var l []int
	for _, text := range strings.Split(s, " ") {
		n, ok := ParseInt(text)
		if !ok {
			return nil, false
		}
		l = append(l, n)
	}
	return l, true
}

func IsName(s string) bool {
	if s == "" || len(s) > maxName {
		return false
	}
	for i, r := range s {
		letter := r >= 'a' && r <= 'z'
		digit := r >= '0' && r <= '9'
		if !letter && (i == 0 || !digit) {
			return false
		}
	}
	return true
}

func widthOk(w int) bool {
	return w >= 1 && w <= MaxWidth
}

// onesOf returns the greatest word of a width; w must be one.
func onesOf(w int) int {
	return 1<<w - 1
}

func WordOk(w int, a int) bool {
	return widthOk(w) && a >= 0 && a <= onesOf(w)
}

func WordOf(w int, n int) int {
	if !widthOk(w) {
		return -1
	}
	// The low bits of a negative int in two's complement are already its remainder from 0 up.
	return n & onesOf(w)
}

func SignedOf(w int, a int) int {
	if !WordOk(w, a) {
		return 0
	}
	if a>>(w-1) == 0 {
		return a
	}
	return a - 1<<w
}

func ApplyUnary(op int, w int, a int) int {
	if !WordOk(w, a) {
		return -1
	}
	switch op {
	case OpNot:
		return onesOf(w) - a
	case OpNeg:
		return WordOf(w, -a)
	}
	return -1
}

func ApplyBinary(op int, w int, a int, b int) int {
	if !WordOk(w, a) || !WordOk(w, b) {
		return -1
	}
	switch op {
	case OpAdd:
		return WordOf(w, a+b)
	case OpSub:
		return WordOf(w, a-b)
	case OpMul:
		return WordOf(w, a*b)
	case OpDiv:
		return divideWords(w, a, b)
	case OpRem:
		return remainderOf(a, b)
	case OpAnd:
		return a & b
	case OpOr:
		return a | b
	case OpXor:
		return a ^ b
	case OpShl, OpShr, OpSar:
		return shiftWord(op, w, a, b)
	case OpEq:
		return bitOf(a == b)
	case OpLess:
		return bitOf(a < b)
	case OpBelow:
		return bitOf(SignedOf(w, a) < SignedOf(w, b))
	}
	return -1
}

func divideWords(w int, a int, b int) int {
	if b == 0 {
		return onesOf(w)
	}
	return a / b
}

func remainderOf(a int, b int) int {
	if b == 0 {
		return a
	}
	return a % b
}

func shiftWord(op int, w int, a int, b int) int {
	if op == OpSar {
		return WordOf(w, SignedOf(w, a)>>min(b, w-1))
	}
	if b >= w {
		return 0
	}
	if op == OpShl {
		return WordOf(w, a<<b)
	}
	return a >> b
}

func bitOf(b bool) int {
	if b {
		return 1
	}
	return 0
}

func ResultWidth(op int, w int) int {
	switch {
	case !widthOk(w) || op < OpNot || op > OpBelow:
		return 0
	case op >= OpEq:
		return 1
	}
	return w
}

func OpName(op int) string {
	if op < OpNot || op > OpBelow {
		return ""
	}
	return opNames[op]
}

func OpOf(name string) int {
	for op, known := range opNames {
		if known == name {
			return op
		}
	}
	return 0
}

func CutWord(w int, a int, low int, n int) int {
	// low+n may be too large for an int; w-n is not.
	if !WordOk(w, a) || low < 0 || n < 1 || low > w-n {
		return -1
	}
	return WordOf(n, a>>low)
}

func JoinWords(w int, a int, v int, b int) int {
	if !WordOk(w, a) || !WordOk(v, b) || !widthOk(w+v) {
		return -1
	}
	return a<<v + b
}

func WidenWord(w int, a int, n int, signed bool) int {
	if !WordOk(w, a) || !widthOk(n) || n < w {
		return -1
	}
	if signed {
		return WordOf(n, SignedOf(w, a))
	}
	return a
}
