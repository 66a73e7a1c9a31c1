package tests

// Promise 9: counted loops with every step, loops whose cells the body has
// removed or replaced, and structures in each other.

import (
	"fmt"
	"slices"
	"strings"
	"testing"

	"loop.example/g00787/impl"
)

func TestTreesOfCountedLoops(t *testing.T) {
	for _, v := range []treeCase{
		{"w86", "", "0 3 DO I -1 +LOOP", 0, "3 2 1 0", 17},
		{"w86", "", "0 0 DO I -1 +LOOP", 0, "0", 8},
		{"w86", "", "3 0 DO I 0 +LOOP", -3, strings.Repeat(" 0", 32) + "|3 0", 99},
		{"w86", "", "4 0 DO I R> 1+ >R LOOP", 0, "0 2", 15},
		{"w86", "", "3 0 DO UNLOOP 8 9 >R >R LOOP", 0, "", 11},
		{"w86", "", "9 0 DO R> DROP 8 >R LOOP", 0, "", 10},
		{"w86", "", "9 0 DO R> R> DROP >R LOOP", -6, "|0", 9},
		{"w86", "", "4 5 >R >R 3 0 DO UNLOOP LOOP 9", 0, "9", 12},
		{"w86", "", "3 0 DO 9 0 DO UNLOOP LOOP LOOP", -6, "", 11},
		{"w86", "", "3 0 DO 1 0 DO I LOOP LOOP", 0, "0 0 0", 23},
		{"w86", "-2147483648 2147483646", "DO I LOOP", 0, "2147483646 2147483647", 7},
		{"w86", "2147483647 -2147483648", "DO I -1 +LOOP", 0, "-2147483648 2147483647", 9},
		{"w86", "2147483647 -2147483648", "DO I 2147483647 +LOOP", 0, "-2147483648 -1 2147483646", 12},
		{"w86", "1 2 3 3 0", "DO +LOOP", 0, "1 2", 4},
		{"w86", "9 1 1 1 3 0", "DO +LOOP", 0, "9", 6},
	} {
		wantWalk(t, v)
	}
}

// TestStepsOfCountedLoops has loops with and without an end.
func TestStepsOfCountedLoops(t *testing.T) {
	limits := []int{minCell, minCell + 2, -1, 0, 1, 3, maxCell - 1, maxCell}
	for _, limit := range limits {
		for _, index := range limits {
			for _, step := range []int{minCell, -7, -2, -1, 0, 1, 2, 7, maxCell} {
				m, defs := scriptOf("", fmt.Sprintf("%d %d DO I %d +LOOP", limit, index, step), "86 CATCH")
				m.Fuel = 200
				checkTree(t, fmt.Sprint("a loop from ", index, " to ", limit, " by ", step), m, defs, 86)
				checkTree(t, fmt.Sprint("a caught loop from ", index, " to ", limit, " by ", step), m, defs, 87)
			}
		}
	}
}

// structureTexts have a body that is executed once or twice.
func structureTexts() []string {
	return []string{"1 IF %s THEN", "1 IF %s ELSE 7 THEN", "0 IF 7 ELSE %s THEN", "BEGIN %s 1 UNTIL", "0 1 BEGIN %s UNTIL", "BEGIN %s 0 WHILE 7 REPEAT", "0 1 BEGIN WHILE %s REPEAT", "2 0 DO %s LOOP", "0 1 DO %s -1 +LOOP"}
}

func TestStructuresInEachOther(t *testing.T) {
	for _, outer := range structureTexts() {
		for _, inner := range structureTexts() {
			for _, body := range []string{"", "5", "DROP", "EXIT", "7 THROW", "87 CATCH", "1 0 DO UNLOOP EXIT LOOP", "R> 1+ >R", "UNLOOP", "RECURSE"} {
				source := fmt.Sprintf(outer, "8 "+fmt.Sprintf(inner, body)+" 9")
				m, defs := scriptOf("3", source, "2DROP 7 THROW")
				checkFuel(t, source, m, defs, 86)
				m.Data.Stack = []int{3, 86}
				checkTree(t, "CATCH of "+source, m, defs, 55)
			}
		}
	}
}

// TestEightStructuresInEachOther has as many as may be open, with what leaves
// all of them, and what leaves none.
func TestEightStructuresInEachOther(t *testing.T) {
	texts := structureTexts()
	for first := range texts {
		for _, body := range []string{"", "EXIT", "UNLOOP", "7 THROW", "87 CATCH DROP"} {
			source := body
			for depth := range maxDepth {
				source = fmt.Sprintf(texts[(first+depth*2)%len(texts)], source)
			}
			m, defs := scriptOf("", source, "0 THROW 5 THROW")
			checkFuel(t, source, m, defs, 86)
			m.Data.Stack = []int{86}
			checkFuel(t, "CATCH of "+source, m, defs, 55)
		}
	}
}

// TestTreesOfWordsThatCallEachOther has a set of definitions with all
// structures, and each word of it with what it needs and without.
func TestTreesOfWordsThatCallEachOther(t *testing.T) {
	sources := []string{
		"DUP *",
		"DUP 2 < IF DROP 1 EXIT THEN DUP 1- RECURSE *",
		"0 SWAP 1+ 1 DO I w86 + LOOP",
		"BEGIN DUP WHILE DUP . 1- REPEAT DROP",
		"1 0 ROT 0 DO OVER + SWAP LOOP DROP",
		"BEGIN 1- DUP 0= UNTIL w92",
		"HTIME w84 ! w84 @ 3 HWRITE 3 HREAD 7 THROW",
		"92 CATCH 91 CATCH + 66 EMIT HEX",
		"DUP IF 1- 94 CATCH ELSE 8 ALLOT 5 , THEN DROP",
		"2 + EXECUTE",
	}
	for _, stacks := range []string{"", "0", "1", "3", "5", "8|9", "3 86", "2 55", "12 87", "4 88 53", "7 9 5 3"} {
		m, defs := scriptOf(stacks, sources...)
		for number := range len(sources) {
			token := 86 + number
			checkFuel(t, fmt.Sprint(token, " on ", stacks), m, defs, token)
			other := clonedMachine(m)
			other.Data.Stack = append(other.Data.Stack, token)
			checkFuel(t, fmt.Sprint("CATCH of ", token, " on ", stacks), other, defs, 55)
			checkFuel(t, fmt.Sprint("EXECUTE of ", token, " on ", stacks), other, defs, 54)
		}
	}
	m, defs := scriptOf("5", sources...)
	for token, want := range map[int][]int{86: {25}, 87: {120}, 88: {55}, 89: nil, 90: {8}} {
		m.Fuel = maxFuel
		if got, throw := checkTree(t, "a known result", m, defs, token); throw != 0 || !slices.Equal(got.Data.Stack, want) {
			t.Errorf("%d of 5 leaves %v and throws %d", token, got.Data.Stack, throw)
		}
	}
	if !impl.DefsOK(m, defs) {
		t.Error("the definitions are not those of the machine")
	}
}
