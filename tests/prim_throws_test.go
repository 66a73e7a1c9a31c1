package tests

// Promise 6: a primitive that cannot have its effect throws and changes
// nothing. Of two throws the first in the document's order counts, and so does
// the first of two errors.

import (
	"fmt"
	"strings"
	"testing"

	"loop.example/g00787/impl"
)

const allPrims = "DUP DROP SWAP OVER ROT NIP TUCK ?DUP 2DUP 2DROP DEPTH >R R> R@ + - * / MOD AND OR XOR LSHIFT RSHIFT NEGATE ABS INVERT 1+ 1- MIN MAX = <> < > U< 0= 0< @ ! +! HERE ALLOT , EMIT . CR SPACE DECIMAL HEX I UNLOOP"

// wantThrow checks a throw for each of the names: it is the one that is
// wanted, and the data is as it was.
func wantThrow(t *testing.T, names string, d impl.Data, floor, wanted int) {
	t.Helper()
	before := clonedData(d)
	for _, name := range strings.Fields(names) {
		got, throw, code := impl.ApplyPrim(d, primOf(name), floor)
		wantData(t, fmt.Sprint(name, " with floor ", floor), got, before, throw, wanted, code)
		if !equalData(d, before) {
			t.Errorf("%s changes its argument", name)
		}
	}
}

// wantNoThrow checks that the names have an effect where they just do not
// throw.
func wantNoThrow(t *testing.T, names string, d impl.Data, floor int) {
	t.Helper()
	for _, name := range strings.Fields(names) {
		if _, throw, code := impl.ApplyPrim(d, primOf(name), floor); throw != 0 || code != impl.OK {
			t.Errorf("%s with floor %d throws %d, %d", name, floor, throw, code)
		}
	}
}

const (
	takeOne   = "DUP DROP ?DUP >R NEGATE ABS INVERT 1+ 1- 0= 0< @ ALLOT , EMIT ."
	takeTwo   = "SWAP OVER NIP TUCK 2DUP 2DROP + - * / MOD AND OR XOR LSHIFT RSHIFT MIN MAX = <> < > U< ! +!"
	takeThree = "ROT"
	takeNone  = "DEPTH R> R@ HERE CR SPACE DECIMAL HEX I UNLOOP"
)

func TestTooFewCellsOnStack(t *testing.T) {
	for stack, names := range []string{takeOne + " " + takeTwo + " " + takeThree, takeTwo + " " + takeThree, takeThree} {
		wantThrow(t, names, dataOf(stack, 3, 5), 0, -4)
	}
	wantNoThrow(t, takeNone, dataOf(0, 3, 5), 0)
	d := dataOf(1, 3, 5)
	d.Stack[0] = 4096
	wantNoThrow(t, takeNone+" @ , EMIT . DUP DROP ?DUP >R NEGATE 0<", d, 0)
	d = dataOf(2, 3, 5)
	d.Stack[1] = 4100
	wantNoThrow(t, takeNone+" "+takeTwo, d, 0)
	if len(strings.Fields(takeOne+" "+takeTwo+" "+takeThree+" "+takeNone)) != primCount {
		t.Error("a primitive is missing")
	}
}

func TestTooFewCellsOnBack(t *testing.T) {
	for back := range maxStack + 1 {
		for floor := range back + 1 {
			d := dataOf(3, back, 5)
			above := back - floor
			if above < 1 {
				wantThrow(t, "R> R@ I", d, floor, -6)
			} else {
				wantNoThrow(t, "R> R@ I", d, floor)
			}
			if above < 2 {
				wantThrow(t, "UNLOOP", d, floor, -6)
			} else {
				wantNoThrow(t, "UNLOOP", d, floor)
			}
		}
	}
}

func TestFloorMattersOnlyForBack(t *testing.T) {
	d := dataOf(3, 4, 5)
	d.Stack[2] = 4100
	for floor := range len(d.Back) + 1 {
		for _, name := range strings.Fields(allPrims) {
			if !strings.Contains(" R> R@ I UNLOOP ", " "+name+" ") && name != "ALLOT" {
				wantNoThrow(t, name, d, floor)
			}
		}
	}
}

func TestBackIsFull(t *testing.T) {
	for _, floor := range []int{0, 1, maxStack} {
		wantThrow(t, ">R", dataOf(1, maxStack, 5), floor, -5)
		wantThrow(t, ">R", dataOf(maxStack, maxStack, 5), floor, -5)
	}
	wantNoThrow(t, ">R", dataOf(1, maxStack-1, 5), 0)
}

func TestAddressesOfPrims(t *testing.T) {
	for _, v := range []struct{ here, at, throw int }{
		{0, 4096, -9}, {1, 4096, 0}, {1, 4095, -9}, {1, 4097, -9}, {1, 4098, -9}, {1, 4100, -9}, {5, 4112, 0}, {5, 4116, -9}, {32, 4220, 0}, {32, 4224, -9},
		{32, 0, -9}, {32, 4, -9}, {32, -4096, -9}, {32, minCell, -9}, {32, maxCell, -9}, {32, maxCell - 3, -9},
	} {
		d := dataOf(0, 2, v.here)
		d.Stack = []int{71, 6, v.at}
		if v.throw == 0 {
			wantNoThrow(t, "@ ! +!", d, 0)
			continue
		}
		wantThrow(t, "@ ! +!", d, 0, v.throw)
	}
}

func TestNoRoomForCells(t *testing.T) {
	for _, v := range []struct{ here, n, throw int }{
		{0, -4, -8}, {0, 128, 0}, {0, 132, -8}, {0, 2, -8}, {0, -2, -8}, {5, -20, 0}, {5, -24, -8}, {5, 108, 0}, {5, 112, -8}, {5, 3, -8}, {5, -1, -8},
		{32, 0, 0}, {32, 4, -8}, {32, -128, 0}, {5, minCell, -8}, {5, maxCell, -8}, {5, maxCell - 3, -8},
	} {
		d := dataOf(0, 2, v.here)
		d.Stack = []int{71, v.n}
		if v.throw == 0 {
			wantNoThrow(t, "ALLOT", d, 0)
			continue
		}
		wantThrow(t, "ALLOT", d, 0, v.throw)
	}
	wantThrow(t, ",", dataOf(3, 2, maxCells), 0, -8)
	wantNoThrow(t, ",", dataOf(3, 2, maxCells-1), 0)
}

func TestDivisionsByZeroThrow(t *testing.T) {
	for _, b := range []int{minCell, -1, 0, 1, maxCell} {
		d := dataOf(0, 2, 5)
		d.Stack = []int{71, b, 0}
		wantThrow(t, "/ MOD", d, 0, -10)
		wantNoThrow(t, "+ - * AND OR XOR LSHIFT RSHIFT", d, 0)
		d.Stack = []int{71, 0, 1}
		wantNoThrow(t, "/ MOD", d, 0)
	}
}

func TestOutIsFull(t *testing.T) {
	d := dataOf(0, 2, 5)
	d.Stack = []int{71, -12}
	for _, v := range []struct {
		size  int
		full  string
		roomy string
	}{
		{maxOut, "EMIT . CR SPACE", ""},
		{maxOut - 1, ".", "EMIT CR SPACE"},
		{maxOut - 3, ".", "EMIT CR SPACE"},
		{maxOut - 4, "", "EMIT . CR SPACE"},
	} {
		d.Out = strings.Repeat("o", v.size)
		wantThrow(t, v.full, d, 0, -17)
		wantNoThrow(t, v.roomy, d, 0)
	}
}

func TestStackIsFull(t *testing.T) {
	growing := "DUP OVER TUCK ?DUP DEPTH R> R@ HERE I"
	wantThrow(t, growing+" 2DUP", dataOf(maxStack, 3, 5), 0, -3)
	wantThrow(t, "2DUP", dataOf(maxStack-1, 3, 5), 0, -3)
	wantNoThrow(t, growing, dataOf(maxStack-1, 3, 5), 0)
	wantNoThrow(t, "2DUP", dataOf(maxStack-2, 3, 5), 0)
	d := dataOf(maxStack, 3, 5)
	d.Stack[maxStack-1] = 0
	wantNoThrow(t, "?DUP", d, 0)
	d.Stack[maxStack-1] = 4100
	for _, name := range strings.Fields(allPrims) {
		if !strings.Contains(" "+growing+" 2DUP ALLOT ", " "+name+" ") {
			wantNoThrow(t, name, d, 0)
		}
	}
}

func TestFirstOfTwoThrows(t *testing.T) {
	for _, v := range []struct {
		what, names string
		throw       int
		turn        func(d *impl.Data)
	}{
		{"underflow of Stack, overflow of Back", ">R", -4, func(d *impl.Data) { d.Stack, d.Back = nil, filled(maxStack) }},
		{"underflow of Back, overflow of Stack", "R> R@ I", -6, func(d *impl.Data) { d.Stack, d.Back = filled(maxStack), nil }},
		{"underflow of Stack, no address", "! +!", -4, func(d *impl.Data) { d.Stack = []int{5} }},
		{"underflow of Stack, no address at all", "@ ! +!", -4, func(d *impl.Data) { d.Stack, d.Here = nil, 0 }},
		{"underflow of Stack, no room for cells", ", ALLOT", -4, func(d *impl.Data) { d.Stack, d.Here = nil, maxCells }},
		{"underflow of Stack, a 0 as divisor", "/ MOD", -4, func(d *impl.Data) { d.Stack = []int{0} }},
		{"underflow of Stack, Out is full", "EMIT .", -4, func(d *impl.Data) { d.Stack, d.Out = nil, strings.Repeat("o", maxOut) }},
		{"no address, Stack is full", "@ ! +!", -9, func(d *impl.Data) { d.Stack = filled(maxStack) }},
		{"no room for cells, Stack is full", ",", -8, func(d *impl.Data) { d.Stack, d.Here = filled(maxStack), maxCells }},
		{"Out is full, Stack is full", "EMIT . CR SPACE", -17, func(d *impl.Data) { d.Stack, d.Out = filled(maxStack), strings.Repeat("o", maxOut) }},
		{"all is full", ">R", -5, func(d *impl.Data) { d.Stack, d.Back, d.Here = filled(maxStack), filled(maxStack), maxCells }},
	} {
		d := dataOf(3, 3, 5)
		v.turn(&d)
		t.Run(v.what, func(t *testing.T) { wantThrow(t, v.names, d, 0, v.throw) })
	}
	wantThrow(t, "R> R@ I UNLOOP", dataOf(maxStack, 3, 5), 3, -6)
	wantThrow(t, "UNLOOP", dataOf(maxStack, 3, 5), 2, -6)
}

func wantPrimCode(t *testing.T, d impl.Data, prim, floor, wanted int) {
	t.Helper()
	if got, throw, code := impl.ApplyPrim(d, prim, floor); code != wanted || throw != 0 || !isZeroData(got) {
		t.Errorf("ApplyPrim(%d) with floor %d = %v, %d, %d, not the code %d", prim, floor, got, throw, code, wanted)
	}
}

func badFloors(d impl.Data) []int {
	return []int{minInt, minInt + 1, minCell, -2, -1, len(d.Back) + 1, len(d.Back) + 2, maxStack + 1, maxCell, 1 << 32, maxInt}
}

func TestPrimsOnInvalidData(t *testing.T) {
	for _, bad := range badData() {
		for prim := 1; prim <= primCount; prim++ {
			wantPrimCode(t, bad, prim, 0, impl.ErrBad)
		}
		for _, prim := range notPrims() {
			wantPrimCode(t, bad, prim, 0, impl.ErrBad)
			wantPrimCode(t, bad, prim, -1, impl.ErrBad)
		}
		for _, floor := range badFloors(bad) {
			wantPrimCode(t, bad, 1, floor, impl.ErrBad)
		}
	}
}

func TestNumbersThatAreNoPrims(t *testing.T) {
	for _, d := range []impl.Data{impl.NewData(), dataOf(3, 4, 5), dataOf(maxStack, maxStack, maxCells)} {
		for _, prim := range notPrims() {
			wantPrimCode(t, d, prim, 0, impl.ErrKind)
			for _, floor := range badFloors(d) {
				wantPrimCode(t, d, prim, floor, impl.ErrKind)
			}
		}
	}
}

func TestFloorsOutOfRange(t *testing.T) {
	for _, back := range []int{0, 1, 4, maxStack - 1, maxStack} {
		for _, stack := range []int{0, 3, maxStack} {
			d := dataOf(stack, back, 5)
			for prim := 1; prim <= primCount; prim++ {
				for _, floor := range badFloors(d) {
					wantPrimCode(t, d, prim, floor, impl.ErrRange)
				}
			}
			wantNoThrow(t, "DECIMAL", d, 0)
			wantNoThrow(t, "DECIMAL", d, back)
		}
	}
}
