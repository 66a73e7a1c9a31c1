package tests

// Promise 9: every word has the same effect by its code and by its tree, with
// the fuel counted to the last unit. Each run of a tree is compared with the
// run of the code, and here also with what the document says of each node.

import (
	"fmt"
	"slices"
	"strings"
	"testing"

	"loop.example/g00787/impl"
)

func equalDefs(a, b []impl.Def) bool {
	return slices.EqualFunc(a, b, func(x, y impl.Def) bool { return x.Word == y.Word && slices.Equal(x.Items, y.Items) })
}

// checkTree runs a token by the trees, checks what holds for every such run,
// and returns the machine and the throw.
func checkTree(t *testing.T, what string, m impl.Machine, defs []impl.Def, token int) (impl.Machine, int) {
	t.Helper()
	before, defsBefore := clonedMachine(m), clonedDefs(defs)
	got, throw, code := impl.RunTree(m, defs, token)
	want, wantThrow, _, wantCode := impl.RunToken(m, token)
	if code != impl.OK || wantCode != impl.OK || throw != wantThrow || !equalMachines(got, want) {
		t.Errorf("%s: by its tree %d leaves %s, %d, %d, and by its code %s, %d, %d", what, token, machineText(got), throw, code, machineText(want), wantThrow, wantCode)
	}
	if !equalMachines(m, before) || !equalDefs(defs, defsBefore) {
		t.Errorf("%s: the tree of %d changes an argument", what, token)
	}
	if !impl.MachineOK(got) || len(got.Calls) > 0 || got.Fuel > m.Fuel || throw == 0 && got.Ip != m.Ip || throw != 0 && got.Ip != 0 {
		t.Errorf("%s: the tree of %d ends with %s and throws %d", what, token, machineText(got), throw)
	}
	return got, throw
}

// checkFuel runs a token with every fuel from none to more than it takes, but
// with some of them only where it takes very much.
func checkFuel(t *testing.T, what string, m impl.Machine, defs []impl.Def, token int) (impl.Machine, int) {
	t.Helper()
	m.Fuel = maxFuel
	whole, wholeThrow := checkTree(t, what, m, defs, token)
	used := maxFuel - whole.Fuel
	for fuel := range min(used+3, maxFuel) {
		if fuel > 150 && fuel < used-2 && fuel%37 > 0 {
			continue
		}
		m.Fuel = fuel
		got, throw := checkTree(t, fmt.Sprint(what, " with fuel ", fuel), m, defs, token)
		want := clonedMachine(whole)
		want.Fuel = fuel - used
		if fuel >= used && (throw != wholeThrow || !equalMachines(got, want)) {
			t.Errorf("%s ends otherwise with fuel %d: %s, %d", what, fuel, machineText(got), throw)
		}
		if fuel < used && (throw != -101 || got.Fuel != 0) {
			t.Errorf("%s takes %d, but with fuel %d it ends with %s, %d", what, used, fuel, machineText(got), throw)
		}
	}
	return whole, wholeThrow
}

// treeCase is a run by trees, what it takes and what it leaves.
type treeCase struct {
	token, before string
	source        string // of w86
	throw         int
	after         string
	used          int
}

// wantWalk runs the case with as much fuel as there may be, and with less.
func wantWalk(t *testing.T, v treeCase, more ...string) impl.Machine {
	t.Helper()
	m, defs := scriptOf(v.before, append([]string{v.source}, more...)...)
	what := fmt.Sprintf("%s on %s with %q", v.token, v.before, v.source)
	got, throw := checkFuel(t, what, m, defs, wordOf(v.token))
	stack, back := stacksOf(v.after)
	if throw != v.throw || !slices.Equal(got.Data.Stack, stack) || !slices.Equal(got.Data.Back, back) {
		t.Errorf("%s leaves %v | %v and throws %d, not %s and %d", what, got.Data.Stack, got.Data.Back, throw, v.after, v.throw)
	}
	if maxFuel-got.Fuel != v.used {
		t.Errorf("%s uses %d, not %d", what, maxFuel-got.Fuel, v.used)
	}
	return got
}

func TestFuelOfEachNode(t *testing.T) {
	for _, v := range []treeCase{
		{"w86", "5|6", "", 0, "5|6", 2},
		{"w86", "5|6", "DUP", 0, "5 5|6", 3},
		{"w86", "5|6", "7", 0, "5 7|6", 3},
		{"w86", "5|6", "w84 w85", 0, "5 4104 -6|6", 4},
		{"w86", "5|6", "HTIME 8 3 HWRITE", 0, "5 1234|6", 6},
		{"w86", "5 0", "THROW", 0, "5", 3},
		{"w86", "0", "DUP IF 1- RECURSE THEN", 0, "0", 4},
		{"w86", "1", "DUP IF 1- RECURSE THEN", 0, "0", 9},
		{"w86", "3", "DUP IF 1- RECURSE THEN", 0, "0", 19},
		{"w86", "7 0", "IF THEN", 0, "7", 3},
		{"w86", "7 1", "IF THEN", 0, "7", 3},
		{"w86", "7 0", "IF ELSE THEN", 0, "7", 3},
		{"w86", "7 -9", "IF ELSE THEN", 0, "7", 4},
		{"w86", "0", "IF 5 THEN 6", 0, "6", 4},
		{"w86", "1", "IF 5 THEN 6", 0, "5 6", 5},
		{"w86", "0", "IF 5 ELSE THEN 6", 0, "6", 4},
		{"w86", "1", "IF 5 ELSE THEN 6", 0, "5 6", 6},
		{"w86", "0", "IF ELSE 5 THEN 6", 0, "5 6", 5},
		{"w86", "1", "IF ELSE 5 THEN 6", 0, "6", 5},
		{"w86", "0", "IF 5 ELSE 6 7 THEN", 0, "6 7", 5},
		{"w86", "1", "IF 5 ELSE 6 7 THEN", 0, "5", 5},
		{"w86", "7 1", "BEGIN UNTIL", 0, "7", 3},
		{"w86", "7 1 0 0", "BEGIN UNTIL", 0, "7", 5},
		{"w86", "3", "BEGIN 1- DUP 0= UNTIL 9", 0, "0 9", 15},
		{"w86", "7 0", "BEGIN WHILE REPEAT", 0, "7", 3},
		{"w86", "7 0 1 1", "BEGIN WHILE REPEAT", 0, "7", 7},
		{"w86", "2", "BEGIN DUP WHILE 1- REPEAT", 0, "0", 12},
		{"w86", "7 0 3", "BEGIN WHILE 8 DROP REPEAT 9", 0, "7 9", 8},
		{"w86", "", "3 0 DO LOOP", 0, "", 8},
		{"w86", "", "3 0 DO I LOOP", 0, "0 1 2", 11},
		{"w86", "", "3 0 DO 2 +LOOP", 0, "", 9},
		{"w86", "", "1 3 DO I -1 +LOOP", 0, "3 2 1", 14},
		{"w86", "3 3", "DO I LOOP", -3, "3 4 5 6 7 8 9 10 11 12 13 14 15 16 17 18 19 20 21 22 23 24 25 26 27 28 29 30 31 32 33 34|3 35", 67},
		{"w86", "", "2 0 DO 2 0 DO LOOP LOOP", 0, "", 17},
		{"w86", "", "2 0 DO I IF 5 ELSE 6 THEN LOOP", 0, "6 5", 14},
		{"w86", "2", "BEGIN DUP IF 1- 0 ELSE 1 THEN UNTIL", 0, "0", 18},
		{"w86", "1", "w87 w87", 0, "1 1 1", 8},
		{"w86", "1", "IF w87 ELSE w88 THEN w89", -4, "", 4},
	} {
		wantWalk(t, v, "DUP", "w87 w87", "BEGIN w87 WHILE w88 REPEAT")
	}
}

// TestTreesOfOtherWords has tokens that are no definitions.
func TestTreesOfOtherWords(t *testing.T) {
	for _, v := range []treeCase{
		{"DUP", "5|6", "", 0, "5 5|6", 1},
		{"DUP", "|6", "", -4, "|6", 1},
		{"R>", "5|6", "", 0, "5 6|", 1},
		{"HTIME", "5", "", 0, "5 1234", 1},
		{"HASK", "5", "", -100, "5", 1},
		{"w84", "5", "", 0, "5 4104", 1},
		{"w85", ofCells(32), "", -3, ofCells(32), 1},
		{"EXIT", "5|6", "", -14, "5|6", 1},
		{"THROW", "5 7", "", 7, "5 7", 1},
		{"THROW", "5 0", "", 0, "5", 1},
		{"THROW", "-101", "", -24, "-101", 1},
		{"THROW", "", "", -4, "", 1},
		{"EXECUTE", "5 DUP", "", 0, "5 5", 2},
		{"EXECUTE", "5 DUP EXECUTE EXECUTE", "", 0, "5 5", 4},
		{"EXECUTE", "5 w86", "DUP", 0, "5 5", 4},
		{"EXECUTE", "5 EXIT", "", -14, "5", 2},
		{"EXECUTE", "", "", -4, "", 1},
		{"EXECUTE", "5 57", "", -24, "5 57", 1},
		{"EXECUTE", "5 88", "", -24, "5 88", 1},
		{"EXECUTE", "5 w87", "", -24, "5 0", 4},
	} {
		wantWalk(t, v, "0 EXECUTE")
	}
}

func TestTreesOfAllTokens(t *testing.T) {
	m, defs := scriptOf("", someSources()...)
	for token := 1; token <= len(m.Words); token++ {
		if !impl.TokenOK(m.Words, token) {
			continue
		}
		for _, stacks := range []string{"", "0", "5", "3 2 1 0", "4100 4104", "5 DUP", "5 w87 CATCH", "5 w91|6", "1 w92 EXECUTE CATCH", ofCells(31), ofCells(32) + "|" + ofCells(31), "7 0|" + ofCells(32)} {
			m.Data.Stack, m.Data.Back = stacksOf(stacks)
			checkFuel(t, fmt.Sprint(token, " on ", stacks), m, defs, token)
		}
	}
}

func TestThrowsOfNodes(t *testing.T) {
	for _, v := range []treeCase{
		{"w86", "|6", "IF THEN", -4, "|6", 2},
		{"w86", "|6", "IF 5 ELSE 6 THEN", -4, "|6", 2},
		{"w86", "|6", "BEGIN UNTIL", -4, "|6", 2},
		{"w86", "0 0|6", "BEGIN UNTIL", -4, "|6", 4},
		{"w86", "|6", "BEGIN WHILE REPEAT", -4, "|6", 2},
		{"w86", "1|6", "BEGIN WHILE REPEAT", -4, "|6", 4},
		{"w86", "|6", "DO LOOP", -4, "|6", 2},
		{"w86", "3|6", "DO LOOP", -4, "3|6", 2},
		{"w86", "3 0|6", "DO +LOOP", -4, "|6 3 0", 3},
		{"w86", "2 3 0|6", "DO +LOOP", -4, "|6 3 2", 4},
		{"w86", "3 0|" + ofCells(30), "DO R> DROP LOOP", -6, "|" + ofCells(30) + " 3", 5},
		{"w86", "3 0|" + ofCells(31), "DO LOOP", -5, "3 0|" + ofCells(31), 2},
		{"w86", "3 0|" + ofCells(32), "DO LOOP", -5, "3 0|" + ofCells(32), 2},
		{"w86", "5 3 0|6", "DO UNLOOP LOOP", -6, "5|6", 4},
		{"w86", "3 0|6 7 8", "DO UNLOOP LOOP", -6, "|6 7 8", 4},
		{"w86", "3 0|6", "DO R> DROP LOOP", -6, "|6 3", 5},
		{"w86", "2 3 0|6", "DO UNLOOP +LOOP", -6, "|6", 4},
		{"w86", ofCells(32), "5", -3, ofCells(32), 2},
		{"w86", ofCells(31), "5 6", -3, ofCells(31) + " 5", 3},
		{"w86", ofCells(32), "w85", -3, ofCells(32), 2},
		{"w86", "5|6", "DUP HASK 9", -100, "5 5|6", 3},
		{"w86", "5", "0 /", -10, "5 0", 3},
		{"w86", "5", "0 EXECUTE", -24, "5 0", 3},
		{"w86", "", "EXECUTE", -4, "", 2},
		{"w86", "5", "73 EXECUTE", -24, "5 73", 3},
	} {
		wantWalk(t, v)
	}
}

// TestWalkWithoutFuel leaves everything as it was.
func TestWalkWithoutFuel(t *testing.T) {
	m, defs := scriptOf("5 6|7", someSources()...)
	m.Fuel = 0
	want := clonedMachine(m)
	want.Ip = 0
	for token := 1; token <= len(m.Words); token++ {
		if impl.TokenOK(m.Words, token) {
			got, throw := checkTree(t, "without fuel", m, defs, token)
			if throw != -101 || !equalMachines(got, want) {
				t.Errorf("without fuel %d leaves %s, %d", token, machineText(got), throw)
			}
		}
	}
}

// TestIpOfTrees is not looked at by any tree.
func TestIpOfTrees(t *testing.T) {
	for _, ip := range []int{0, 1, 2, startIp, 400, maxCell} {
		for source, wantThrow := range map[string]int{"DUP w87": 0, "DUP w87 7 THROW": 7, "w87 BEGIN 0 UNTIL": -101, "57 DROP 88 CATCH": 0, "w88": -10, "3 0 DO I LOOP": 0} {
			m, defs := scriptOf("5", source, "1 IF ELSE THEN", "1 0 /")
			m.Ip = ip
			got, throw := checkTree(t, source, m, defs, 86)
			if want := map[bool]int{true: ip}[wantThrow == 0]; throw != wantThrow || got.Ip != want {
				t.Errorf("%s from %d ends at %d and throws %d", source, ip, got.Ip, throw)
			}
		}
	}
}

// TestRecursionOfTrees goes on until the calls are used up.
func TestRecursionOfTrees(t *testing.T) {
	for _, v := range []treeCase{
		{"w86", "5|6", "RECURSE", -50, "5|6", 17},
		{"w86", "0", "1+ RECURSE", -50, "16", 33},
		{"w86", "14", "DUP IF 1- RECURSE THEN 1+", 0, "15", 89},
		{"w86", "15", "DUP IF 1- RECURSE THEN", 0, "0", 79},
		{"w86", "16", "DUP IF 1- RECURSE THEN", -50, "0", 65},
		{"w86", "0", "1+ DUP >R RECURSE", -50, "16|1 2 3 4 5 6 7 8 9 10 11 12 13 14 15 16", 65},
		{"w86", "|6", "w87", -50, "|6", 17},
		{"w86", "", "86 EXECUTE", -50, "", 49},
		{"w86", "", "86 CATCH", 0, "-50 0 0 0 0 0 0 0", 33},
		{"CATCH", "7 w86", "1+ RECURSE", 0, "22 -50", 32},
		{"CATCH", "7 w86", "RECURSE", 0, "7 -50", 17},
		{"w88", "0", "1+ RECURSE", 0, "14 -50", 33},
		{"CATCH", "0 w88 CATCH", "RECURSE", 0, "0 -50 0 0", 19},
		{"CATCH", "1" + strings.Repeat(" CATCH", 15), "", 0, "-4 0 0 0 0 0 0 0 0 0 0 0 0 0 0 0", 17},
		{"CATCH", "1" + strings.Repeat(" CATCH", 16), "", 0, "0 -50" + strings.Repeat(" 0", 15), 17},
		{"CATCH", "1" + strings.Repeat(" CATCH", 17), "", 0, "1 0 -50" + strings.Repeat(" 0", 15), 17},
	} {
		wantWalk(t, v, "w86 5", "86 CATCH")
	}
}
