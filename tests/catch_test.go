package tests

// Promise 12: a caught exception leaves the stack at its depth with the throw
// on top, and 0 if there was none; what is uncaught leaves everything as it
// stood. Words that finish or throw within CATCH at once do so in one step.

import (
	"fmt"
	"slices"
	"strings"
	"testing"

	"loop.example/g00787/impl"
)

func TestCatchThatIsRefused(t *testing.T) {
	wantRun(t, runCase{"CATCH", "", "EXIT", -4, "", 1, 1})
	wantRun(t, runCase{"w86", "|6", "CATCH EXIT", -4, "|6", 2, 2})
	wantRun(t, runCase{"w86", "5 0|6", "CATCH EXIT", -24, "5 0|6", 2, 2})
}

func TestCatchOfWordsThatFinishAtOnce(t *testing.T) {
	for _, v := range []runCase{
		{"CATCH", "7 DROP|6", "", 0, "0|6", 1, 2},
		{"CATCH", "5 DUP", "", 0, "5 5 0", 1, 2},
		{"CATCH", "5 DEPTH", "", 0, "5 1 0", 1, 2},
		{"CATCH", "5 >R|6", "", 0, "0|6 5", 1, 2},
		{"CATCH", "HTIME", "", 0, "1234 0", 1, 2},
		{"CATCH", "5 3 HWRITE", "", 0, "0", 1, 2},
		{"CATCH", "9 w84", "", 0, "9 4104 0", 1, 2},
		{"CATCH", "9 w85", "", 0, "9 -6 0", 1, 2},
		{"CATCH", "9 0 THROW", "", 0, "9 0", 1, 2},
		{"CATCH", "5 DUP EXECUTE", "", 0, "5 5 0", 1, 3},
		{"CATCH", "5 DUP CATCH", "", 0, "5 5 0 0", 1, 3},
		{"CATCH", "5 DUP CATCH CATCH", "", 0, "5 5 0 0 0", 1, 4},
		{"CATCH", "5 DUP EXECUTE CATCH EXECUTE", "", 0, "5 5 0 0", 1, 5},
		{"CATCH", "9 0 THROW CATCH", "", 0, "9 0 0", 1, 3},
		{"EXECUTE", "5 DUP CATCH", "", 0, "5 5 0", 1, 3},
		{"w86", "5", "(LIT) 1 CATCH DUP EXIT", 0, "5 5 0 0", 5, 6},
		{"w86", "5", "(LIT) 1 (LIT) 55 CATCH DUP EXIT", 0, "5 5 0 0 0", 6, 8},
		{"w86", "5", "(LIT) 1 CATCH (LIT) 55", -24, "5 5 0 55", 5, 6},
	} {
		wantRun(t, v)
	}
}

func TestCatchOfWordsThatThrowAtOnce(t *testing.T) {
	for _, v := range []runCase{
		{"CATCH", "DUP|6", "", 0, "-4|6", 1, 2},
		{"CATCH", "1 0 /", "", 0, "1 0 -10", 1, 2},
		{"CATCH", "9 @", "", 0, "9 -9", 1, 2},
		{"CATCH", "9 R>|6", "", 0, "9 -6|6", 1, 2},
		{"CATCH", "9 HASK|6", "", 0, "9 -100|6", 1, 2},
		{"CATCH", "HASK", "", 0, "-100", 1, 2},
		{"CATCH", "9 8 HREAD", "", 0, "9 8 -9", 1, 2},
		{"CATCH", "EXIT", "", 0, "-14", 1, 2},
		{"CATCH", "9 EXIT|6", "", 0, "9 -14|6", 1, 2},
		{"CATCH", "CATCH", "", 0, "-4", 1, 2},
		{"CATCH", "0 CATCH", "", 0, "0 -24", 1, 2},
		{"CATCH", "57 CATCH", "", 0, "57 -24", 1, 2},
		{"CATCH", "EXECUTE", "", 0, "-4", 1, 2},
		{"CATCH", "0 EXECUTE", "", 0, "0 -24", 1, 2},
		{"CATCH", "DUP EXECUTE", "", 0, "0 -4", 1, 3},
		{"CATCH", "9 EXIT EXECUTE", "", 0, "9 0 -14", 1, 3},
		{"CATCH", "THROW", "", 0, "-4", 1, 2},
		{"CATCH", "9 5 THROW", "", 0, "9 5 5", 1, 2},
		{"CATCH", "9 -4 THROW", "", 0, "9 -4 -4", 1, 2},
		{"CATCH", "9 -101 THROW", "", 0, "9 -101 -24", 1, 2},
		{"CATCH", fmt.Sprint(minCell, " THROW"), "", 0, fmt.Sprint(minCell, minCell), 1, 2},
		{"CATCH", fmt.Sprint(maxCell, " THROW"), "", 0, fmt.Sprint(maxCell, maxCell), 1, 2},
		{"CATCH", "1 0 / CATCH", "", 0, "1 0 -10 0", 1, 3},
		{"CATCH", "9 EXIT CATCH", "", 0, "9 -14 0", 1, 3},
		{"CATCH", "9 HASK CATCH|6", "", 0, "9 -100 0|6", 1, 3},
		{"CATCH", "5 THROW CATCH", "", 0, "5 5 0", 1, 3},
		{"CATCH", "-101 THROW CATCH", "", 0, "-101 -24 0", 1, 3},
		{"CATCH", "1 0 / CATCH CATCH", "", 0, "1 0 -10 0 0", 1, 4},
		{"CATCH", "CATCH CATCH", "", 0, "-4 0", 1, 3},
		{"CATCH", "THROW EXECUTE CATCH", "", 0, "0 -4 0", 1, 4},
		{"w86", "9", "(LIT) 53 CATCH EXIT", 0, "9 -14", 4, 5},
		{"w86", "9|6", "(LIT) 13 CATCH EXIT", 0, "9 -6|6", 4, 5},
		{"w86", "9|6", ">R (LIT) 13 CATCH R> EXIT", 0, "-6 9|6", 6, 7},
	} {
		wantRun(t, v)
	}
}

// TestCatchOnFullStack has no room for the 0, or just room for the throw.
func TestCatchOnFullStack(t *testing.T) {
	for _, v := range []runCase{
		{"CATCH", ofCells(31) + " DROP", "", 0, ofCells(30) + " 0", 1, 2},
		{"CATCH", ofCells(31) + " NEGATE", "", 0, ofCells(30) + " -1 0", 1, 2},
		{"CATCH", ofCells(31) + " DUP", "", -3, ofCells(32), 1, 2},
		{"CATCH", ofCells(31) + " 2DUP", "", 0, ofCells(31) + " -3", 1, 2},
		{"CATCH", ofCells(30) + " DUP", "", 0, ofCells(31) + " 0", 1, 2},
		{"CATCH", ofCells(30) + " 2DUP", "", -3, ofCells(32), 1, 2},
		{"CATCH", ofCells(31) + " w84", "", -3, ofCells(31) + " 4104", 1, 2},
		{"CATCH", ofCells(30) + " 5 THROW", "", 0, ofCells(30) + " 5 5", 1, 2},
		{"CATCH", ofCells(31) + " HTIME", "", -3, ofCells(31) + " 1234", 1, 2},
		{"CATCH", ofCells(30) + " 2DUP CATCH", "", 0, ofCells(31) + " -3", 1, 3},
		{"CATCH", ofCells(30) + " DUP CATCH", "", -3, ofCells(31) + " 0", 1, 3},
		{"CATCH", ofCells(30) + " DROP CATCH", "", 0, ofCells(29) + " 0 0", 1, 3},
		{"CATCH", ofCells(29) + " 2DUP CATCH CATCH", "", 0, ofCells(31) + " -3", 1, 4},
		{"CATCH", ofCells(31) + " w86", "DUP EXIT", -3, ofCells(32), 3, 4},
		{"CATCH", ofCells(31) + " w86", "EXIT", 0, ofCells(31) + " 0", 2, 3},
		{"CATCH", ofCells(31) + " w86", "DUP DUP EXIT", 0, ofCells(31) + " -3", 3, 4},
		{"CATCH", ofCells(30) + " w86 CATCH", "2DUP EXIT", 0, ofCells(31) + " -3", 3, 5},
		{"w86", ofCells(31), "(LIT) 1 CATCH DUP EXIT", -3, ofCells(32), 3, 4},
		{"w86", ofCells(30) + "|6", "(LIT) 87 CATCH DUP DROP EXIT", 0, ofCells(30) + " -3|6", 9, 11},
	} {
		wantRun(t, v, "(LIT) 9 (LIT) 1 CATCH EXIT")
	}
}

func TestThrowCutsOrPadsStack(t *testing.T) {
	for _, v := range []runCase{
		{"CATCH", "5 w86", "(LIT) 1 (LIT) 2 (LIT) 9 THROW EXIT", 0, "5 9", 5, 6},
		{"CATCH", "5 w86", "1+ (LIT) 0 / EXIT", 0, "6 -10", 4, 5},
		{"CATCH", "w86", "DEPTH DEPTH DEPTH DUP THROW EXIT", 0, "2", 6, 7},
		{"CATCH", "5 6 7 w86", "2DROP DROP DROP EXIT", 0, "0 0 0 -4", 4, 5},
		{"CATCH", "5 6 7 w86", "2DROP DROP (LIT) 9 THROW EXIT", 0, "9 0 0 9", 5, 6},
		{"CATCH", "5 6 7 w86", "DROP (LIT) 9 THROW EXIT", 0, "5 6 9 9", 4, 5},
		{"CATCH", "5 6 7 w86", "2DROP (LIT) 9 THROW EXIT", 0, "5 9 0 9", 4, 5},
		{"CATCH", ofCells(31) + " w86", "2DROP 2DROP (LIT) 9 THROW EXIT", 0, ofCells(27) + " 9 0 0 0 9", 5, 6},
		{"CATCH", "5 6 7 w86 CATCH", "2DROP DROP DROP EXIT", 0, "0 0 0 -4 0", 4, 6},
		{"CATCH", "5 6 7 w86 EXECUTE", "2DROP DROP DROP EXIT", 0, "0 0 0 0 -4", 4, 6},
		{"w86", "5 6 7", "(LIT) 87 CATCH EXIT", 0, "0 0 0 -24", 7, 8},
	} {
		wantRun(t, v, "2DROP DROP 0")
	}
}

// TestThrowRestoresBackAndIp has calls and cells on Back that the throw leaves
// behind.
func TestThrowRestoresBackAndIp(t *testing.T) {
	second, third := "(LIT) 2 >R w88 EXIT", "(LIT) 3 >R (LIT) 9 THROW EXIT"
	for _, v := range []runCase{
		{"w86", "5|6", "(LIT) 1 >R (LIT) 87 CATCH R> EXIT", 0, "5 9 1|6", 14, 15},
		{"w86", "5|6", "(LIT) 1 >R (LIT) 87 CATCH EXIT", -25, "5 9|6 1", 13, 14},
		{"w86", "5|6", "(LIT) 1 >R w87 EXIT", 9, "5 9|6 1 2 3", 11, 11},
		{"w86", "5|6", "(LIT) 12 CATCH EXIT", -25, "0|6 5", 4, 5},
		{"w86", "5|6", "(LIT) 12 CATCH R> EXIT", 0, "0 5|6", 5, 6},
		{"CATCH", "5 w87|6", "EXIT", 0, "5 9|6", 8, 9},
		{"CATCH", "5 w88 CATCH|6", "EXIT", 0, "5 9 0|6", 5, 7},
		{"w86", "|6", "(LIT) 89 CATCH EXIT", 0, "9|6", 11, 13},
		{"w89", "|6", "EXIT", 9, "9|6", 8, 9},
	} {
		wantRun(t, v, second, third, "(LIT) 88 CATCH THROW EXIT")
	}
}

func TestCatchOfWordsThatFinishLater(t *testing.T) {
	for _, v := range []runCase{
		{"CATCH", "5 w86", "DUP * EXIT", 0, "25 0", 4, 5},
		{"CATCH", "5 w86", "EXIT", 0, "5 0", 2, 3},
		{"CATCH", "5 w86 CATCH", "DUP EXIT", 0, "5 5 0 0", 3, 5},
		{"CATCH", "5 w86 EXECUTE", "DUP EXIT", 0, "5 5 0", 3, 5},
		{"CATCH", "5 w86 CATCH CATCH|6", "1+ EXIT", 0, "6 0 0 0|6", 3, 6},
		{"w86", "5|6", "(LIT) 87 CATCH (LIT) 87 CATCH EXIT", 0, "5 -1 0 -1 0|6", 10, 12},
		{"w86", "5|6", "(LIT) 87 (LIT) 55 CATCH EXIT", 0, "5 -1 0 0|6", 7, 9},
		{"w86", "5|6", "(LIT) 88 CATCH EXIT", 0, "5 -1 0 0|6", 9, 11},
		{"w86", "5|6", "w88 EXIT", 0, "5 -1 0|6", 8, 9},
		{"CATCH", "w88|6", "", 0, "-1 0 0|6", 6, 8},
	} {
		wantRun(t, v, "(LIT) -1 EXIT", "(LIT) 87 CATCH EXIT")
	}
}

// TestCatchAtTheLastCall has 15 or 16 calls when CATCH begins another one.
func TestCatchAtTheLastCall(t *testing.T) {
	for _, v := range []runCase{
		{"CATCH", "5 w88", "EXIT", 0, "5 -50", 16, 17},
		{"w88", "5|6", "EXIT", -50, "5|6", 17, 17},
		{"w86", "|6", "(LIT) 86 CATCH EXIT", 0, "-50 0 0 0 0 0 0 0|6", 25, 33},
		{"w87", "|6", "(LIT) 86 CATCH EXIT", 0, "-50 0 0 0 0 0 0|6", 26, 33},
		{"CATCH", "1" + strings.Repeat(" CATCH", 15), "EXIT", 0, "-4 0 0 0 0 0 0 0 0 0 0 0 0 0 0 0", 1, 17},
		{"CATCH", "1" + strings.Repeat(" CATCH", 16), "EXIT", 0, "0 -50" + strings.Repeat(" 0", 15), 1, 17},
		{"CATCH", "1" + strings.Repeat(" CATCH", 17), "EXIT", 0, "1 0 -50" + strings.Repeat(" 0", 15), 1, 17},
	} {
		wantRun(t, v, "w86 EXIT", "w88")
	}
}

// TestThrowLeavesTheRest changes everything that a word can change before it
// throws.
func TestThrowLeavesTheRest(t *testing.T) {
	code := "(LIT) 65 EMIT (LIT) 7 (LIT) 2 HWRITE HEX (LIT) 4 ALLOT (LIT) 5 >R THROW"
	want := machineOf("")
	want.Data.Out, want.Data.Base, want.Data.Here, want.Data.Cells[5] = "outA", 16, 6, 0
	want.Host.Store[2] = 7
	want.Host.Deeds = append(want.Host.Deeds, impl.Deed{Cap: 1, A: 2, B: 7})
	for _, v := range []runCase{
		{"w86", "8 9|6", code, 9, "8 9|6 5", 12, 12},
		{"CATCH", "8 9 w86|6", code, 0, "8 9 9|6", 12, 13},
		{"w87", "8 9|6", code, 9, "8 9|6 5", 13, 13},
		{"CATCH", "9 w86 CATCH|6", code, 0, "9 9 0|6", 12, 14},
	} {
		got := wantRun(t, v, "w86 EXIT")
		d := clonedData(want.Data)
		d.Stack, d.Back = got.Data.Stack, got.Data.Back
		if !equalData(got.Data, d) || !equalHosts(got.Host, want.Host) {
			t.Errorf("%s on %s leaves %v and %v", v.token, v.before, got.Data, got.Host)
		}
	}
}

// TestUncaughtThrowFromAnywhere starts at every place of a machine with calls.
func TestUncaughtThrowFromAnywhere(t *testing.T) {
	for size := 1; size <= maxCalls; size++ {
		m := machineOf("9 7|1 2 3 4 5 6 7 8", "THROW")
		m.Calls, m.Ip = someCalls(size), 0
		for i := range m.Calls {
			m.Calls[i].Catch, m.Calls[i].Depth = false, 0
		}
		want := clonedMachine(m)
		want.Calls, want.Ip, want.Fuel = nil, 0, someFuel-1
		got, throw, code := impl.StepMachine(m)
		if throw != 7 || code != impl.OK || !equalMachines(got, want) {
			t.Errorf("a throw within %d calls leaves %s, %d, %d", size, machineText(got), throw, code)
		}
	}
}

// TestThrowFromAnywhere has the call that catches at every place.
func TestThrowFromAnywhere(t *testing.T) {
	for place := range maxCalls - 1 {
		for depth := range maxStack {
			m := machineOf("8 9 7|1 2 3 4 5 6 7 8", "THROW")
			m.Calls, m.Ip = someCalls(maxCalls), 0
			for i := range m.Calls {
				m.Calls[i].Catch, m.Calls[i].Depth = false, 0
			}
			m.Calls[place].Catch, m.Calls[place].Depth = true, depth
			want := clonedMachine(m)
			want.Calls, want.Ip, want.Fuel = want.Calls[:place], 10+place, someFuel-1
			want.Data.Back = want.Data.Back[:place/2]
			want.Data.Stack = append(append([]int{8, 9, 7}, make([]int, maxStack)...)[:depth], 7)
			got, throw, code := impl.StepMachine(m)
			if throw != 0 || code != impl.OK || !equalMachines(got, want) {
				t.Errorf("a throw caught at call %d with depth %d leaves %s, %d, %d", place, depth, machineText(got), throw, code)
			}
		}
	}
}

// TestCatchAgainstNoCatch runs words with and without CATCH. Back is empty, so
// that both have the same floor.
func TestCatchAgainstNoCatch(t *testing.T) {
	codes := []string{"DUP * EXIT", "DROP DROP EXIT", "(LIT) 5 EXIT", "2DUP 2DUP THROW", "w86 w88 EXIT", "1+ >R R@ EXIT", "HTIME HASK EXIT", "w86"}
	for token := 1; token < kernelSize+3+len(codes); token++ {
		for _, stack := range [][]int{nil, {0}, {5}, {4100}, {-101}, {7, 0}, {0, 5}, {3, 86}, {3, 2, 1}, filled(30), append(filled(29), 3, 7), append(filled(30), 88)} {
			m := machineOf("", codes...)
			m.Data.Stack = stack
			if !impl.TokenOK(m.Words, token) {
				continue
			}
			plain, throw, _, _ := impl.RunToken(m, token)
			want := clonedMachine(plain)
			want.Fuel--
			if throw != 0 {
				want.Ip, want.Data.Back = startIp, nil
				want.Data.Stack = slices.Concat(plain.Data.Stack, make([]int, maxStack))[:len(stack)]
			}
			wantThrow := 0
			if len(want.Data.Stack) < maxStack {
				want.Data.Stack = append(want.Data.Stack, throw)
			} else {
				wantThrow, want.Ip = -3, 0
			}
			m.Data.Stack = append(slices.Clone(stack), token)
			what := fmt.Sprint("CATCH of ", token, " on ", stack)
			got, gotThrow, _ := checkRun(t, what, m, 55)
			if gotThrow != wantThrow || !equalMachines(got, want) {
				t.Errorf("%s leaves %s, %d, not %s, %d", what, machineText(got), gotThrow, machineText(want), wantThrow)
			}
		}
	}
}
