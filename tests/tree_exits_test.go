package tests

// Promises 9 and 12: EXIT, CATCH and throws, which leave the nodes in which
// they occur, by the tree as by the code.

import (
	"fmt"
	"slices"
	"testing"
)

func TestExitWithinStructures(t *testing.T) {
	for _, v := range []treeCase{
		{"w86", "5|6", "EXIT", 0, "5|6", 2},
		{"w86", "5|6", "EXIT 7 8", 0, "5|6", 2},
		{"w86", "1", "IF 5 EXIT THEN 6", 0, "5", 4},
		{"w86", "0", "IF 5 EXIT THEN 6", 0, "6", 4},
		{"w86", "1", "IF EXIT ELSE 7 THEN 6", 0, "", 3},
		{"w86", "0", "IF 7 ELSE EXIT THEN 6", 0, "", 3},
		{"w86", "1", "IF 7 ELSE EXIT THEN 6", 0, "7 6", 6},
		{"w86", "", "BEGIN 5 EXIT 0 UNTIL 6", 0, "5", 3},
		{"w86", "", "BEGIN EXIT WHILE REPEAT 6", 0, "", 2},
		{"w86", "", "BEGIN 1 WHILE EXIT REPEAT 6", 0, "", 4},
		{"w86", "0 1", "BEGIN WHILE IF EXIT THEN REPEAT 6", -4, "", 5},
		{"w86", "1 1", "BEGIN WHILE IF EXIT THEN REPEAT 6", 0, "", 4},
		{"w86", "5|6", "3 0 DO EXIT LOOP 6", -25, "5|6 3 0", 5},
		{"w86", "5|6", "3 0 DO EXIT +LOOP 6", -25, "5|6 3 0", 5},
		{"w86", "5|6", "3 0 DO UNLOOP EXIT LOOP 6", 0, "5|6", 6},
		{"w86", "5|6", "3 0 DO I 1 = IF UNLOOP EXIT THEN LOOP 6", 0, "5|6", 15},
		{"w86", "5|6", "3 0 DO 9 7 DO UNLOOP UNLOOP EXIT LOOP LOOP 6", 0, "5|6", 10},
		{"w86", "5|6", "3 0 DO 9 7 DO UNLOOP EXIT LOOP LOOP 6", -25, "5|6 3 0", 9},
		{"w86", "1", "IF BEGIN 3 0 DO UNLOOP 53 EXECUTE 7 LOOP 1 UNTIL THEN 9", 0, "", 9},
		{"w86", "", "53 EXECUTE 9", 0, "", 4},
		{"w86", "", "53 54 EXECUTE 9", 0, "", 6},
		{"w86", "", "53 CATCH 9", 0, "-14 9", 6},
		{"w86", "5", "IF 53 54 CATCH THEN 9", 0, "0 -14 9", 9},
		{"w86", "5", ">R EXIT", -25, "|5", 3},
		{"w86", "5", ">R", -25, "|5", 3},
		{"w86", "5", ">R 7 R>", 0, "7 5", 5},
		{"w86", "", "1 >R RECURSE", -50, fmt.Sprint("|", ofCells(16)), 49},
		{"w86", "5|6", "w87 8", 0, "5 7 8|6", 6},
		{"w86", "0|6", "w88 8", 0, "7 8|6", 9},
		{"w86", "1|6", "w88 8", -25, "8|6 1", 7},
	} {
		wantWalk(t, v, "7 EXIT 9", "DUP IF >R 8 EXIT THEN DROP 7")
	}
}

func TestFloorsOfTrees(t *testing.T) {
	for _, v := range []treeCase{
		{"w86", "5|6", "R>", -6, "5|6", 2},
		{"w86", "5|6", "R@", -6, "5|6", 2},
		{"w86", "5|6", "I", -6, "5|6", 2},
		{"w86", "5|6 7", "UNLOOP", -6, "5|6 7", 2},
		{"w86", "5|6 7 8", ">R UNLOOP", -6, "|6 7 8 5", 3},
		{"w86", "5|6", "13 CATCH", 0, "5 -6|6", 5},
		{"w86", "5|6", ">R 13 CATCH R>", 0, "-6 5|6", 7},
		{"w86", "5|6", ">R w87 R>", -6, "|6 5", 4},
		{"w86", "5|6", ">R 87 CATCH R>", 0, "-6 5|6", 8},
		{"w86", "5|6", "12 CATCH R>", 0, "0 5|6", 6},
		{"w86", "5|6", "12 CATCH", -25, "0|6 5", 5},
		{"w86", "5|6", "3 0 DO w87 LOOP", -6, "5|6 3 0", 6},
		{"w86", "5|6", "3 0 DO 87 CATCH DROP I LOOP", 0, "5 0 1 2|6", 26},
		{"w86", "5|6", "3 0 DO w88 LOOP", -6, "5|6 3 0", 6},
		{"w86", "5|6", "3 0 DO w89 LOOP", -6, "5|6 3 0 9", 8},
		{"w86", "5|6", "3 0 DO 13 CATCH LOOP", 0, "5 -6 -6 -6|6", 17},
		{"EXECUTE", "R>|6", "", 0, "6", 2},
		{"CATCH", "R>|6", "", 0, "-6|6", 2},
		{"CATCH", "5 w86|6", ">R R>", 0, "5 0|6", 5},
	} {
		wantWalk(t, v, "R>", "UNLOOP 0 0", "9 >R UNLOOP 0")
	}
}

func TestCatchByTrees(t *testing.T) {
	for _, v := range []treeCase{
		{"w86", "5|6", "1 CATCH", 0, "5 5 0|6", 5},
		{"w86", "5", "1 55 CATCH", 0, "5 5 0 0", 7},
		{"w86", "5", "1 55 55 CATCH", 0, "5 5 0 0 0", 9},
		{"w86", "5", "1 54 CATCH", 0, "5 5 0", 7},
		{"w86", "57", "54 CATCH", 0, "57 -24", 5},
		{"w86", "1 1", "54 CATCH", 0, "1 1 0", 6},
		{"w86", "5", "54 CATCH", 0, "0 -4", 6},
		{"w86", "57", "55 CATCH", 0, "57 -24", 5},
		{"w86", "5", "55 CATCH", 0, "-4 0", 6},
		{"w86", "1 0", "18 CATCH", 0, "1 0 -10", 5},
		{"w86", "1 0", "18 55 CATCH", 0, "1 0 -10 0", 7},
		{"w86", "5", "53 CATCH", 0, "5 -14", 5},
		{"w86", "5", "53 55 CATCH", 0, "5 -14 0", 7},
		{"w86", "5", "56 CATCH", 0, "5 5", 5},
		{"w86", "0", "56 CATCH", 0, "0", 5},
		{"w86", "-101", "56 CATCH", 0, "-101 -24", 5},
		{"w86", "", "56 CATCH", 0, "-4", 5},
		{"w86", "5", "84 CATCH", 0, "5 4104 0", 5},
		{"w86", "5", "66 CATCH", 0, "5 1234 0", 5},
		{"w86", "5", "65 CATCH", 0, "5 -100", 5},
		{"w86", "5", "0 CATCH", -24, "5 0", 3},
		{"w86", "", "CATCH", -4, "", 2},
		{"w86", "5", "87 CATCH", 0, "25 0", 8},
		{"w86", "5", "87 55 CATCH", 0, "25 0 0", 10},
		{"w86", "5", "87 54 CATCH", 0, "25 0", 10},
		{"w86", "5", "88 CATCH", 0, "5 9", 9},
		{"w86", "5 6 7", "88 CATCH", 0, "5 6 7 9", 9},
		{"w86", "5 6 7", "89 CATCH", 0, "5 0 0 -4", 7},
		{"w86", "5", "88 87 CATCH CATCH", -24, "5 7744 0", 9},
		{"CATCH", "5 w86 CATCH", "w88", 0, "5 9 0", 8},
	} {
		wantWalk(t, v, "DUP *", "7 8 9 THROW", "2DROP 2DROP")
	}
}

// TestCatchByTreesOnFullStack has no room for the 0, or just room for the throw.
func TestCatchByTreesOnFullStack(t *testing.T) {
	for _, v := range []treeCase{
		{"w86", ofCells(30), "1 CATCH", 0, ofCells(31) + " 0", 5},
		{"w86", ofCells(31), "1 CATCH", -3, ofCells(32), 4},
		{"w86", ofCells(30), "1 55 CATCH", -3, ofCells(31) + " 0", 6},
		{"w86", ofCells(29), "9 55 CATCH", -3, ofCells(31) + " 0", 6},
		{"w86", ofCells(29), "9 55 55 CATCH", 0, ofCells(31) + " -3", 9},
		{"w86", ofCells(30), "87 CATCH", -3, ofCells(31) + " 0", 8},
		{"w86", ofCells(30), "88 CATCH", 0, ofCells(30) + " -3", 9},
		{"CATCH", ofCells(30) + " w88", "", 0, ofCells(30) + " -3", 6},
		{"CATCH", ofCells(31) + " DUP", "", -3, ofCells(32), 2},
		{"CATCH", ofCells(30) + " DUP CATCH", "", -3, ofCells(31) + " 0", 3},
		{"CATCH", ofCells(29) + " 2DUP CATCH CATCH", "", 0, ofCells(31) + " -3", 4},
	} {
		wantWalk(t, v, "1 CATCH", "DUP 1 CATCH")
	}
}

func TestThrowsWithinStructures(t *testing.T) {
	for _, v := range []treeCase{
		{"w86", "1", "IF 9 THROW THEN 5", 9, "9", 4},
		{"w86", "0", "IF 5 ELSE 9 THROW THEN 5", 9, "9", 4},
		{"w86", "1|6", "IF w87 THEN 5", 9, "9|6", 5},
		{"w86", "1|6", "IF 87 CATCH THEN 5", 0, "9 5|6", 9},
		{"w86", "1|6", "IF 87 CATCH ELSE 7 THEN 5", 0, "9 5|6", 10},
		{"w86", "|6", "BEGIN w87 1 UNTIL 5", 9, "9|6", 4},
		{"w86", "|6", "BEGIN 87 CATCH UNTIL 5", 0, "5|6", 9},
		{"w86", "|6", "BEGIN 87 CATCH WHILE w87 REPEAT 5", 9, "9|6", 10},
		{"w86", "|6", "BEGIN w87 WHILE 5 REPEAT 5", 9, "9|6", 4},
		{"w86", "|6", "3 0 DO w87 LOOP 5", 9, "9|6 3 0", 7},
		{"w86", "|6", "3 0 DO I 87 CATCH LOOP 5", 0, "0 9 1 9 2 9 5|6", 27},
		{"w86", "7|6", "88 CATCH 5", 0, "7 9 5|6", 12},
		{"w86", "7|6", "w88 5", 9, "7 9|6 3 0", 8},
		{"CATCH", "7 w88|6", "", 0, "7 9|6", 8},
		{"CATCH", "7 w89|6", "", 0, "7 9 0 0|6", 15},
		{"w86", "7|6", "w89 5", 0, "7 9 0 5|6", 17},
		{"w86", "7|6", "90 CATCH 5", 0, "7 9 5|6", 22},
		{"w86", "7|6", "w90 5", 9, "7 9|6", 18},
		{"w86", "7|6", "91 CATCH 5", -101, "7 0|6 3 0", maxFuel},
		{"CATCH", "7 w91 CATCH|6", "", -101, "7|6 3 0", maxFuel},
	} {
		wantWalk(t, v, "9 THROW", "3 0 DO w87 LOOP", "1 BEGIN IF 88 CATCH 0 THEN EXIT 1 UNTIL", "w89 DROP THROW", "3 0 DO BEGIN 0 UNTIL LOOP")
	}
}

// TestThrowsAreCaughtWithinStructures has w86 throw on unless it catches the
// throw that is expected.
func TestThrowsAreCaughtWithinStructures(t *testing.T) {
	throws := map[string]int{"1 0 /": -10, "9 @": -9, "R>": -6, "HASK": -100, "7 THROW": 7, "0 EXECUTE": -24, "3 0 DO EXIT LOOP": -25, "RECURSE": -50, "53 CATCH THROW": -14, "6 ALLOT": -8, "-101 THROW": -24}
	for throwing, throw := range throws {
		catching := fmt.Sprintf("87 CATCH %d - THROW", throw)
		for _, inside := range []string{throwing, "1 IF " + throwing + " THEN", "0 IF ELSE " + throwing + " THEN", "BEGIN " + throwing + " 1 UNTIL", "1 0 DO " + throwing + " LOOP"} {
			for _, v := range [][2]string{
				{"w86 9", "9"}, {"1 IF w86 ELSE 7 THEN 9", "9"}, {"0 IF 7 ELSE w86 THEN 9", "9"}, {"BEGIN w86 1 UNTIL 9", "9"}, {"BEGIN w86 0 WHILE REPEAT 9", "9"},
				{"1 BEGIN WHILE w86 0 REPEAT 9", "9"}, {"2 0 DO w86 I LOOP 9", "0 1 9"}, {"0 2 DO I w86 -1 +LOOP 9", "2 1 0 9"},
			} {
				m, defs := scriptOf("|6", catching, inside, v[0])
				what := fmt.Sprintf("%s around a CATCH of %q", v[0], inside)
				got, uncaught := checkFuel(t, what, m, defs, 88)
				if stack, _ := stacksOf(v[1]); uncaught != 0 || !slices.Equal(got.Data.Stack, stack) || !slices.Equal(got.Data.Back, []int{6}) {
					t.Errorf("%s leaves %v | %v and throws %d", what, got.Data.Stack, got.Data.Back, uncaught)
				}
			}
			m, defs := scriptOf("", catching, inside)
			if _, uncaught := checkFuel(t, inside, m, defs, 87); uncaught != throw {
				t.Errorf("%q throws %d, not %d", inside, uncaught, throw)
			}
		}
	}
}
