package tests

// Promise 2: arithmetic on cells is that of the integers, wrapped; division
// is consistent; cells are recovered from their texts. The expected results
// are computed with math/big, independently of the program.

import (
	"math"
	"math/big"
	"testing"

	"loop.example/g00787/impl"
)

const (
	minInt  = math.MinInt64
	maxInt  = math.MaxInt64
	minCell = -2147483648
	maxCell = 2147483647
)

// cells has the edge cases and a fixed mixture of other cells.
func cells() []int {
	list := []int{minCell, minCell + 1, -65537, -65536, -32768, -10, -7, -2, -1, 0, 1, 2, 3, 7, 10, 32767, 46340, 46341, 65535, 65536, maxCell - 1, maxCell}
	n := 12345
	for i := range 40 {
		n = (n*1103515245 + 12345) % (1 << 31)
		mixed := n >> (i % 31)
		list = append(list, mixed, -mixed)
	}
	return list
}

func notCells() []int {
	return []int{minInt, minCell - 1, maxCell + 1, 1 << 32, -(1 << 32), maxInt}
}

func whole(n int) *big.Int {
	return big.NewInt(int64(n))
}

// unsignedBig is n modulo 2^32.
func unsignedBig(n *big.Int) *big.Int {
	return new(big.Int).Mod(n, whole(1<<32))
}

func wrapBig(n *big.Int) int {
	low := int(unsignedBig(n).Int64())
	if low > maxCell {
		low -= 1 << 32
	}
	return low
}

func twoCells(t *testing.T, op, a, b int) int {
	t.Helper()
	n, ok, code := impl.TwoCells(op, a, b)
	if !ok || code != impl.OK {
		t.Fatalf("TwoCells(%d, %d, %d) = %d, %v, %d", op, a, b, n, ok, code)
	}
	if n < minCell || n > maxCell {
		t.Fatalf("TwoCells(%d, %d, %d) = %d is not a cell", op, a, b, n)
	}
	return n
}

func TestOperationNumbers(t *testing.T) {
	for i, op := range []int{impl.CcAdd, impl.CcSub, impl.CcMul, impl.CcDiv, impl.CcMod, impl.CcAnd, impl.CcOr, impl.CcXor, impl.CcLeft, impl.CcRight} {
		if op != i+1 {
			t.Errorf("operation %d has the number %d", i+1, op)
		}
	}
}

func TestWrapCell(t *testing.T) {
	for _, n := range append(append(cells(), notCells()...), 4294967295, 4294967297, -4294967295, 6442450944, -6442450945) {
		if got, want := impl.WrapCell(n), wrapBig(whole(n)); got != want {
			t.Errorf("WrapCell(%d) = %d, want %d", n, got, want)
		}
	}
}

func TestCellOK(t *testing.T) {
	for _, n := range cells() {
		if !impl.CellOK(n) {
			t.Errorf("CellOK(%d) is false", n)
		}
	}
	for _, n := range notCells() {
		if impl.CellOK(n) {
			t.Errorf("CellOK(%d) is true", n)
		}
	}
}

func TestSumsDifferencesProducts(t *testing.T) {
	for _, a := range cells() {
		for _, b := range cells() {
			if got, want := twoCells(t, impl.CcAdd, a, b), wrapBig(new(big.Int).Add(whole(a), whole(b))); got != want {
				t.Fatalf("%d + %d = %d, want %d", a, b, got, want)
			}
			if got, want := twoCells(t, impl.CcSub, a, b), wrapBig(new(big.Int).Sub(whole(a), whole(b))); got != want {
				t.Fatalf("%d - %d = %d, want %d", a, b, got, want)
			}
			if got, want := twoCells(t, impl.CcMul, a, b), wrapBig(new(big.Int).Mul(whole(a), whole(b))); got != want {
				t.Fatalf("%d * %d = %d, want %d", a, b, got, want)
			}
		}
	}
}

func TestDivisionIsConsistent(t *testing.T) {
	for _, a := range cells() {
		for _, b := range cells() {
			if b == 0 {
				continue
			}
			quotient, remainder := twoCells(t, impl.CcDiv, a, b), twoCells(t, impl.CcMod, a, b)
			if got := quotient*b + remainder; wrapBig(whole(got)) != a {
				t.Fatalf("%d / %d: %d * %d + %d = %d", a, b, quotient, b, remainder, got)
			}
			if b > 0 && (remainder < 0 || remainder >= b) || b < 0 && (remainder > 0 || remainder <= b) {
				t.Fatalf("%d MOD %d = %d", a, b, remainder)
			}
			// Only this quotient does not fit a cell.
			if a == minCell && b == -1 {
				continue
			}
			if got := quotient*b + remainder; got != a {
				t.Fatalf("%d / %d: %d * %d + %d = %d", a, b, quotient, b, remainder, got)
			}
		}
	}
}

func TestDivisionRoundsDown(t *testing.T) {
	for _, v := range []struct{ a, b, quotient, remainder int }{
		{7, 2, 3, 1}, {-7, 2, -4, 1}, {7, -2, -4, -1}, {-7, -2, 3, -1},
		{6, 3, 2, 0}, {-6, 3, -2, 0}, {6, -3, -2, 0}, {-6, -3, 2, 0},
		{0, 5, 0, 0}, {0, -5, 0, 0}, {1, maxCell, 0, 1}, {-1, maxCell, -1, maxCell - 1}, {1, minCell, -1, minCell + 1}, {-1, minCell, 0, -1},
		{minCell, 1, minCell, 0}, {minCell, -1, minCell, 0}, {maxCell, -1, minCell + 1, 0},
		{minCell, 2, -1073741824, 0}, {minCell, 3, -715827883, 1}, {maxCell, -2, -1073741824, -1}, {minCell, minCell, 1, 0}, {maxCell, minCell, -1, -1}, {minCell, maxCell, -2, maxCell - 1},
	} {
		if got := twoCells(t, impl.CcDiv, v.a, v.b); got != v.quotient {
			t.Errorf("%d / %d = %d, want %d", v.a, v.b, got, v.quotient)
		}
		if got := twoCells(t, impl.CcMod, v.a, v.b); got != v.remainder {
			t.Errorf("%d MOD %d = %d, want %d", v.a, v.b, got, v.remainder)
		}
	}
}

func TestDivisionByZeroHasNoResult(t *testing.T) {
	for _, a := range cells() {
		for _, op := range []int{impl.CcDiv, impl.CcMod} {
			if n, ok, code := impl.TwoCells(op, a, 0); n != 0 || ok || code != impl.OK {
				t.Errorf("TwoCells(%d, %d, 0) = %d, %v, %d", op, a, n, ok, code)
			}
		}
	}
}

func TestBitwiseOperations(t *testing.T) {
	for _, a := range cells() {
		for _, b := range cells() {
			x, y := unsignedBig(whole(a)), unsignedBig(whole(b))
			if got, want := twoCells(t, impl.CcAnd, a, b), wrapBig(new(big.Int).And(x, y)); got != want {
				t.Fatalf("%d AND %d = %d, want %d", a, b, got, want)
			}
			if got, want := twoCells(t, impl.CcOr, a, b), wrapBig(new(big.Int).Or(x, y)); got != want {
				t.Fatalf("%d OR %d = %d, want %d", a, b, got, want)
			}
			if got, want := twoCells(t, impl.CcXor, a, b), wrapBig(new(big.Int).Xor(x, y)); got != want {
				t.Fatalf("%d XOR %d = %d, want %d", a, b, got, want)
			}
		}
	}
}

func TestShifts(t *testing.T) {
	for _, a := range cells() {
		bits := unsignedBig(whole(a))
		for by := range 32 {
			if got, want := twoCells(t, impl.CcLeft, a, by), wrapBig(new(big.Int).Lsh(bits, uint(by))); got != want {
				t.Fatalf("%d LSHIFT %d = %d, want %d", a, by, got, want)
			}
			if got, want := twoCells(t, impl.CcRight, a, by), wrapBig(new(big.Int).Rsh(bits, uint(by))); got != want {
				t.Fatalf("%d RSHIFT %d = %d, want %d", a, by, got, want)
			}
		}
		for _, by := range []int{32, 33, 63, 64, 65, 256, maxCell, -1, -31, -32, -64, minCell} {
			if left, right := twoCells(t, impl.CcLeft, a, by), twoCells(t, impl.CcRight, a, by); left != 0 || right != 0 {
				t.Fatalf("%d shifted by %d: %d, %d", a, by, left, right)
			}
		}
	}
}

func TestNamedShifts(t *testing.T) {
	for _, v := range []struct{ a, by, left, right int }{
		{1, 0, 1, 1}, {1, 31, minCell, 0}, {1, 32, 0, 0}, {1, -1, 0, 0},
		{-1, 0, -1, -1}, {-1, 1, -2, maxCell}, {-1, 31, minCell, 1}, {-1, 32, 0, 0}, {-1, -1, 0, 0},
		{minCell, 0, minCell, minCell}, {minCell, 1, 0, 1073741824}, {minCell, 31, 0, 1}, {maxCell, 1, -2, 1073741823}, {maxCell, 31, minCell, 0},
	} {
		if got := twoCells(t, impl.CcLeft, v.a, v.by); got != v.left {
			t.Errorf("%d LSHIFT %d = %d, want %d", v.a, v.by, got, v.left)
		}
		if got := twoCells(t, impl.CcRight, v.a, v.by); got != v.right {
			t.Errorf("%d RSHIFT %d = %d, want %d", v.a, v.by, got, v.right)
		}
	}
}

func TestTwoCellsErrors(t *testing.T) {
	for _, op := range []int{0, -1, 11, 12, minInt, maxInt} {
		for _, a := range []int{1, maxCell + 1} {
			if n, ok, code := impl.TwoCells(op, a, 1); n != 0 || ok || code != impl.ErrKind {
				t.Errorf("TwoCells(%d, %d, 1) = %d, %v, %d", op, a, n, ok, code)
			}
		}
	}
	for op := impl.CcAdd; op <= impl.CcRight; op++ {
		for _, bad := range notCells() {
			for _, v := range [][2]int{{bad, 1}, {1, bad}, {bad, bad}, {bad, 0}} {
				if n, ok, code := impl.TwoCells(op, v[0], v[1]); n != 0 || ok || code != impl.ErrRange {
					t.Errorf("TwoCells(%d, %d, %d) = %d, %v, %d", op, v[0], v[1], n, ok, code)
				}
			}
		}
	}
}

func TestUnsigned(t *testing.T) {
	for _, n := range cells() {
		want := int(unsignedBig(whole(n)).Int64())
		if got, code := impl.Unsigned(n); got != want || code != impl.OK {
			t.Errorf("Unsigned(%d) = %d, %d, want %d", n, got, code, want)
		}
	}
	for _, n := range notCells() {
		if got, code := impl.Unsigned(n); got != 0 || code != impl.ErrRange {
			t.Errorf("Unsigned(%d) = %d, %d", n, got, code)
		}
	}
}
