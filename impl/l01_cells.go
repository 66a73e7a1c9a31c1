package impl

import (
	"strconv"
	"strings"
)

const (
	MaxCell = 2147483647

	minCell   = -MaxCell - 1
	minBase   = 2
	maxBase   = 16
	maxDigits = 32
	cellBits  = 32
)

const (
	CcAdd = iota + 1
	CcSub
	CcMul
	CcDiv
	CcMod
	CcAnd
	CcOr
	CcXor
	CcLeft
	CcRight
)

// Results of sums and products arrive as int, which holds them exactly, and
// results of shifts as uint32, which lets bits fall off at either end.
type integer interface {
	int | uint32
}

func lowCell[T integer](n T) int {
	return int(int32(n))
}

func WrapCell(n int) int {
	return lowCell(n)
}

func CellOK(n int) bool {
	return minCell <= n && n <= MaxCell
}

func baseOK(base int) bool {
	return minBase <= base && base <= maxBase
}

func TwoCells(op, a, b int) (int, bool, int) {
	if op < CcAdd || op > CcRight {
		return 0, false, ErrKind
	}
	if !CellOK(a) || !CellOK(b) {
		return 0, false, ErrRange
	}
	if b == 0 && (op == CcDiv || op == CcMod) {
		return 0, false, OK
	}
	return combineCells(op, a, b), true, OK
}

func combineCells(op, a, b int) int {
	switch op {
	case CcAdd:
		return lowCell(a + b)
	case CcSub:
		return lowCell(a - b)
	case CcMul:
		return lowCell(a * b)
	case CcDiv:
		quotient, _ := divideDown(a, b)
		return lowCell(quotient)
	case CcMod:
		_, remainder := divideDown(a, b)
		return remainder
	case CcAnd:
		return a & b
	case CcOr:
		return a | b
	case CcXor:
		return a ^ b
	default:
		return shiftCell(op, a, b)
	}
}

// divideDown corrects Go's division, which rounds towards zero and gives the
// remainder the sign of the dividend.
func divideDown(a, b int) (int, int) {
	quotient, remainder := a/b, a%b
	if remainder != 0 && (remainder < 0) != (b < 0) {
		return quotient - 1, remainder + b
	}
	return quotient, remainder
}

func shiftCell(op, a, b int) int {
	// A negative count would panic in Go.
	if b < 0 || b >= cellBits {
		return 0
	}
	if op == CcLeft {
		return lowCell(uint32(a) << b)
	}
	return lowCell(uint32(a) >> b)
}

func Unsigned(n int) (int, int) {
	if !CellOK(n) {
		return 0, ErrRange
	}
	return int(uint32(n)), OK
}

func CellText(n, base int) (string, int) {
	if !CellOK(n) || !baseOK(base) {
		return "", ErrRange
	}
	return strings.ToUpper(strconv.FormatInt(int64(n), base)), OK
}

func ReadCell(t string, base int) (int, int) {
	if len(t) > MaxText {
		return 0, ErrLong
	}
	if !baseOK(base) {
		return 0, ErrRange
	}
	digits, negative := strings.CutPrefix(t, "-")
	if len(digits) < 1 || len(digits) > maxDigits {
		return 0, ErrForm
	}
	// 32 digits may exceed 64 bits; arithmetic modulo 2^32 keeps what WrapCell
	// of the whole number would keep.
	var sum uint32
	for i := range len(digits) {
		digit := digitOf(digits[i])
		if digit < 0 || digit >= base {
			return 0, ErrForm
		}
		sum = sum*uint32(base) + uint32(digit)
	}
	if negative {
		sum = -sum
	}
	return lowCell(sum), OK
}

// digitOf returns -1 for a byte that is no digit of any base.
func digitOf(c byte) int {
	switch {
	case isDigit(c):
		return int(c - '0')
	case 'A' <= c && c <= 'F':
		return int(c-'A') + 10
	case 'a' <= c && c <= 'f':
		return int(c-'a') + 10
	}
	return -1
}
