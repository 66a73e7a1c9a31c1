package tests

// Promises 10 and 11: branches and loops, also those that lead nowhere and
// those that go round the end of the cells.

import (
	"fmt"
	"slices"
	"testing"

	"loop.example/g00787/impl"
)

func TestBranchTargets(t *testing.T) {
	for _, target := range []int{minCell, minCell + 1, -400, -2, -1} {
		wantRun(t, runCase{"w86", "5|6", fmt.Sprint("(BRANCH) ", target, " EXIT"), -24, "5|6", 2, 2})
		wantRun(t, runCase{"w86", "5 0|6", fmt.Sprint("(0BRANCH) ", target, " EXIT"), -24, "5|6", 2, 2})
		wantRun(t, runCase{"w86", "5 1|6", fmt.Sprint("(0BRANCH) ", target, " EXIT"), 0, "5|6", 3, 3})
	}
	for _, target := range []int{3, 4, 5, 399, 400, 401, 1 << 20, maxCell - 1, maxCell} {
		wantRun(t, runCase{"w86", "5|6", fmt.Sprint("(BRANCH) ", target, " EXIT"), -24, "5|6", 3, 3})
		wantRun(t, runCase{"w86", "5 0|6", fmt.Sprint("(0BRANCH) ", target, " EXIT"), -24, "5|6", 3, 3})
		wantRun(t, runCase{"w86", "5 1|6", fmt.Sprint("(0BRANCH) ", target, " EXIT"), 0, "5|6", 3, 3})
	}
}

// TestBranchesToThemselves ends when there is no fuel left.
func TestBranchesToThemselves(t *testing.T) {
	wantRun(t, runCase{"w86", "5|6", "(BRANCH) 0", -101, "5|6", someFuel + 1, someFuel})
	wantRun(t, runCase{"w86", "5|6", "DUP DROP (BRANCH) 2", -101, "5|6", someFuel + 1, someFuel})
	wantRun(t, runCase{"w86", "0 0|6", "(0BRANCH) 0", -4, "|6", 4, 4})
	wantRun(t, runCase{"w86", "5 7 0 0|6", "(0BRANCH) 0 EXIT", 0, "5|6", 5, 5})
	wantRun(t, runCase{"w86", "", "w86", -50, "", 17, 17})
	wantRun(t, runCase{"w86", "|6", "w87 EXIT", -50, "|6", 17, 17}, "w86 EXIT")
}

// TestBranchesIntoOperands takes the operand, and what is behind it, as words.
func TestBranchesIntoOperands(t *testing.T) {
	wantRun(t, runCase{"w86", "5", "(LIT) 1 (BRANCH) 5 EXIT (BRANCH) 1", -3, "5" + ofCells(31), 95, 95})
	wantRun(t, runCase{"w86", "", "(BRANCH) 1", -4, "", 3, 3})
	wantRun(t, runCase{"w86", "5", "(BRANCH) 1 EXIT", 0, "5 5", 4, 4})
}

// TestWholeLoops runs loops from (DO) to the end, with all that I leaves on
// Stack.
func TestWholeLoops(t *testing.T) {
	for _, v := range []struct {
		limit, start, step int
		indexes            []int
	}{
		{3, 0, 1, []int{0, 1, 2}},
		{1, 0, 1, []int{0}},
		{0, -2, 1, []int{-2, -1}},
		{minCell, maxCell - 1, 1, []int{maxCell - 1, maxCell}},
		{minCell + 1, maxCell, 1, []int{maxCell, minCell}},
		{maxCell, maxCell - 2, 1, []int{maxCell - 2, maxCell - 1}},
		{10, 0, 4, []int{0, 4, 8}},
		{8, 0, 4, []int{0, 4}},
		{0, 4, -2, []int{4, 2, 0}},
		{1, 4, -2, []int{4, 2}},
		{0, 0, -1, []int{0}},
		{maxCell, minCell + 1, -1, []int{minCell + 1, minCell, maxCell}},
		{0, 0, minCell, []int{0}},
		{0, 5, minCell, []int{5}},
		{0, -5, maxCell, []int{-5}},
		{0, minCell, maxCell, []int{minCell, -1}},
	} {
		code := fmt.Sprint("(DO) I (LIT) ", v.step, " (+LOOP) 1 EXIT")
		used := 3 + 3*len(v.indexes)
		if v.step == 1 {
			plain := runCase{"w86", fmt.Sprint("9 ", v.limit, v.start, "|6"), "(DO) I (LOOP) 1 EXIT", 0, "", 3 + 2*len(v.indexes), 3 + 2*len(v.indexes)}
			plain.after = indexText(v.indexes)
			wantRun(t, plain)
		}
		wantRun(t, runCase{"w86", fmt.Sprint("9 ", v.limit, v.start, "|6"), code, 0, indexText(v.indexes), used, used})
	}
}

func indexText(indexes []int) string {
	text := "9"
	for _, n := range indexes {
		text += fmt.Sprint(" ", n)
	}
	return text + "|6"
}

// TestLoopsWithoutEnd start at or above the limit, or do not move.
func TestLoopsWithoutEnd(t *testing.T) {
	for _, v := range []struct {
		limit, start, step int
		last               int // index when the fuel ends: the loop itself is gone through 32 times
	}{
		{0, 0, 1, 32}, {0, 5, 1, 37}, {3, 3, 1, 35}, {0, 0, 0, 0}, {3, 0, 0, 0}, {0, 3, 0, 3}, {minCell, minCell, 0, minCell}, {0, -1, -1, -33}, {0, maxCell - 1, 1, minCell + 30}, {maxCell, minCell, 1, minCell + 32}, {0, minCell + 1, -1, maxCell - 30},
	} {
		m := machineOf(fmt.Sprint(v.limit, v.start), fmt.Sprint("(DO) (LIT) ", v.step, " (+LOOP) 1 EXIT"))
		m.Fuel = 2 + 2*32
		got, throw, _ := checkRun(t, fmt.Sprint(v), m, 86)
		if throw != -101 || !slices.Equal(got.Data.Back, []int{v.limit, v.last}) {
			t.Errorf("a loop from %d to %d by %d is at %v after 32 rounds, %d", v.start, v.limit, v.step, got.Data.Back, throw)
		}
	}
}

// loopStep makes the step of (LOOP) or (+LOOP) within a call, with the target 3.
func loopStep(t *testing.T, limit, index int, step ...int) (impl.Machine, int) {
	t.Helper()
	m := machineOf("8", "(LOOP) 3")
	if len(step) > 0 {
		m = machineOf("8", "(+LOOP) 3")
		m.Data.Stack = append(m.Data.Stack, step...)
	}
	m.Data.Back = []int{6, limit, index}
	m.Calls, m.Ip = []impl.Call{{Ip: 9, Floor: 1}}, 0
	got, throw, code := impl.StepMachine(m)
	wantStep(t, fmt.Sprint("a loop from ", index, " to ", limit, " by ", step), m, got, 0, throw, code)
	return got, throw
}

func TestStepOfLoops(t *testing.T) {
	for _, v := range []struct {
		limit, index, step int
		next               []int // empty if the loop ends
	}{
		{5, 3, 1, []int{4}}, {5, 4, 1, nil}, {5, 5, 1, []int{6}}, {5, 6, 1, []int{7}}, {0, -1, 1, nil}, {0, 0, 1, []int{1}},
		{0, maxCell, 1, []int{minCell}}, {minCell, maxCell, 1, nil}, {maxCell, maxCell, 1, []int{minCell}}, {maxCell, maxCell - 1, 1, nil}, {maxCell, minCell, 1, []int{minCell + 1}}, {minCell, minCell, 1, []int{minCell + 1}}, {-1, maxCell, 1, []int{minCell}}, {1, minCell, 1, []int{minCell + 1}},
		{5, 3, 2, nil}, {5, 3, 3, nil}, {5, 2, 2, []int{4}}, {5, 3, 0, []int{3}}, {5, 5, 0, []int{5}}, {5, 6, 0, []int{6}}, {minCell, maxCell, 0, []int{maxCell}},
		{5, 6, -1, []int{5}}, {5, 5, -1, nil}, {5, 4, -1, []int{3}}, {5, 6, -2, nil}, {5, 7, -2, []int{5}}, {5, 7, -9, nil},
		{minCell, minCell, -1, nil}, {minCell, minCell + 1, -1, []int{minCell}}, {0, minCell, -1, []int{maxCell}}, {maxCell, minCell, -1, []int{maxCell}}, {maxCell, maxCell, -1, nil},
		{0, -1, maxCell, nil}, {0, -maxCell, maxCell, nil}, {0, minCell, maxCell, []int{-1}}, {0, 0, maxCell, []int{maxCell}}, {0, 1, maxCell, []int{minCell}}, {0, maxCell, maxCell, []int{-2}},
		{0, 0, minCell, nil}, {0, maxCell, minCell, nil}, {0, -1, minCell, []int{maxCell}}, {0, minCell, minCell, []int{0}}, {maxCell, minCell, minCell, nil}, {minCell, maxCell, minCell, []int{-1}},
	} {
		got, throw := loopStep(t, v.limit, v.index, v.step)
		if v.step == 1 {
			plain, plainThrow := loopStep(t, v.limit, v.index)
			plain.Code[0] = 62
			if plainThrow != throw || !equalMachines(plain, got) {
				t.Errorf("(LOOP) and (+LOOP) from %d to %d by 1 differ: %v, %v", v.index, v.limit, plain, got)
			}
		}
		back, ip := []int{6}, 2
		if len(v.next) > 0 {
			back, ip = []int{6, v.limit, v.next[0]}, 3
		}
		if throw != 0 || !slices.Equal(got.Data.Back, back) || got.Ip != ip || !slices.Equal(got.Data.Stack, []int{8}) {
			t.Errorf("a step by %d from %d to %d leaves %v at %d, %d", v.step, v.index, v.limit, got.Data.Back, got.Ip, throw)
		}
	}
}

func TestStepOfManyLoops(t *testing.T) {
	list := []int{minCell, minCell + 1, minCell + 2, -1000, -2, -1, 0, 1, 2, 1000, maxCell - 2, maxCell - 1, maxCell}
	for _, limit := range list {
		for _, index := range list {
			loopStep(t, limit, index)
			for _, step := range list {
				loopStep(t, limit, index, step)
			}
		}
	}
}

func TestThrowsOfLoops(t *testing.T) {
	for _, v := range []runCase{
		{"w86", "5 2 0|6", "(DO) (LOOP) -1 EXIT", -24, "5|6 2 1", 3, 3},
		{"w86", "5 1 0|6", "(DO) (LOOP) -1 EXIT", 0, "5|6", 4, 4},
		{"w86", "5 2 0|6", fmt.Sprint("(DO) (LOOP) ", minCell, " EXIT"), -24, "5|6 2 1", 3, 3},
		{"w86", "5 2 0|6", fmt.Sprint("(DO) (LOOP) ", maxCell, " EXIT"), -24, "5|6 2 1", 4, 4},
		{"w86", "5 2 0|6", "(DO) (LIT) 0 (+LOOP) -1 EXIT", -24, "5|6 2 0", 4, 4},
		{"w86", "5 2 0|6", "(DO) (LIT) 7 (+LOOP) -1 EXIT", 0, "5|6", 5, 5},
		{"w86", "2 0|6", "(DO) (+LOOP) 1 EXIT", -4, "|6 2 0", 3, 3},
		{"w86", "|6", "(+LOOP) 1 EXIT", -4, "|6", 2, 2},
		{"w86", "5 4|6 7", "(+LOOP) 1 EXIT", -6, "5|6 7", 2, 2},
		{"w86", "5 4|6 7", "(LOOP) 1 EXIT", -6, "5 4|6 7", 2, 2},
		{"w86", "4|6 7", ">R (+LOOP) -1 EXIT", -4, "|6 7 4", 3, 3},
		{"w86", "5 4|6 7", ">R (+LOOP) -1 EXIT", -6, "|6 7 4", 3, 3},
		{"w86", "5 4|6 7", ">R (LOOP) -1 EXIT", -6, "5|6 7 4", 3, 3},
		{"w86", "5 4|6 7", "(LOOP) -1 EXIT", -6, "5 4|6 7", 2, 2},
		{"w86", "5 2 0|6", "(DO) EXIT", -25, "5|6 2 0", 3, 3},
		{"w86", "3 2 9 0|6", "(DO) (DO) (LOOP) 9 UNLOOP EXIT", 0, "|6", 6, 6},
	} {
		wantRun(t, v)
	}
}
