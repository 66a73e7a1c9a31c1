package tests

// Promise 9, the definitions: what a machine and its code must be like.

import (
	"fmt"
	"slices"
	"testing"

	"loop.example/g00787/impl"
)

func TestDefinitionsWithOtherCode(t *testing.T) {
	m, defs := scriptOf("5", someSources()...)
	for at := range m.Code {
		for _, step := range []int{-1, 1, 53, 400} {
			other := clonedMachine(m)
			other.Code[at] += step
			wantDefs(t, fmt.Sprint("code that differs at ", at), other, defs, at < 3)
		}
		other := clonedMachine(m)
		other.Code = other.Code[:at]
		wantDefs(t, fmt.Sprint("code that is cut off at ", at), other, defs, false)
		wantDefs(t, fmt.Sprint("code that is cut off at ", at, " in its memory"), withCode(m, m.Code[:at]), defs, false)
		if at > 2 {
			wantDefs(t, fmt.Sprint("code without the cell at ", at), withCode(m, slices.Delete(slices.Clone(m.Code), at, at+1)), defs, false)
		}
	}
	wantDefs(t, "no code", withCode(m, nil), defs, false)
	wantDefs(t, "code that begins later", withCode(m, append([]int{0}, m.Code...)), defs, false)
}

func withCode(m impl.Machine, code []int) impl.Machine {
	m.Code = code
	return m
}

// TestDefinitionsAtOtherAddresses has the words elsewhere, also behind the code.
func TestDefinitionsAtOtherAddresses(t *testing.T) {
	m, defs := scriptOf("5", someSources()...)
	for i, x := range defs {
		for _, at := range []int{0, 1, 2, len(m.Code) - 1, len(m.Code), len(m.Code) + 1, maxCode - 1} {
			other := clonedMachine(m)
			other.Words[x.Word-1].Value = at
			wantDefs(t, fmt.Sprint("definition ", i, " at ", at), other, defs, len(x.Items) == 0 && at == len(m.Code)-1)
		}
	}
}

// TestDefinitionsAtTheEndOfTheCode end with the last cell of the largest code,
// or would go on behind it.
func TestDefinitionsAtTheEndOfTheCode(t *testing.T) {
	for _, source := range []string{"", "DUP", "5", "RECURSE", "IF 5 ELSE 6 THEN", "BEGIN WHILE REPEAT", "3 0 DO I LOOP"} {
		items := sourceItems(source)
		size := len(blockCodeOf(items)) + 1
		for _, room := range []int{size + 1, size, max(1, size-1), 1} {
			m := impl.NewMachine()
			m.Code = make([]int, maxCode-room)
			x := defined(&m, items)
			whole := len(m.Code)
			if whole > maxCode {
				m.Code = m.Code[:maxCode]
			}
			wantDefs(t, fmt.Sprint(source, " with ", room, " cells"), m, []impl.Def{x}, whole <= maxCode)
		}
	}
}

func blockCodeOf(items []impl.Item) []int {
	code, _ := blockCode(items, 0, 84)
	return code
}

// TestDefinitionsOfInvalidMachines has machines that are valid but for one part
// that the definitions do not need.
func TestDefinitionsOfInvalidMachines(t *testing.T) {
	whole, defs := scriptOf("5", someSources()...)
	for i, turn := range []func(m *impl.Machine){
		func(m *impl.Machine) { m.Words[0].Name = "dup" },
		func(m *impl.Machine) { m.Words = append(m.Words, impl.Word{Name: "", Kind: impl.WdConst}) },
		func(m *impl.Machine) { m.Words = append(m.Words, slices.Repeat(scriptWords()[:1], maxUser)...) },
		func(m *impl.Machine) { m.Code = append(m.Code, maxCell+1) },
		func(m *impl.Machine) { m.Code[0] = minCell - 1 },
		func(m *impl.Machine) { m.Code = append(m.Code, make([]int, maxCode)...) },
		func(m *impl.Machine) { m.Data.Base = 1 },
		func(m *impl.Machine) { m.Data.Stack = filled(maxStack + 1) },
		func(m *impl.Machine) { m.Host.Clock = -1 },
		func(m *impl.Machine) { m.Host.Granted = nil },
		func(m *impl.Machine) { m.Calls = []impl.Call{{Catch: true}} },
		func(m *impl.Machine) { m.Calls = []impl.Call{{Floor: 1}} },
		func(m *impl.Machine) { m.Ip = -1 },
		func(m *impl.Machine) { m.Ip = maxCell + 1 },
		func(m *impl.Machine) { m.Fuel = -1 },
		func(m *impl.Machine) { m.Fuel = maxFuel + 1 },
	} {
		m := clonedMachine(whole)
		turn(&m)
		if impl.MachineOK(m) || impl.DefsOK(m, defs) {
			t.Errorf("invalid machine %d is accepted", i)
		}
		for _, token := range []int{1, 86, 53, 0, 57, 67, -1, 200} {
			wantNoWalk(t, fmt.Sprint("invalid machine ", i), m, defs, token, impl.ErrBad)
		}
		wantNoWalk(t, fmt.Sprint("invalid machine ", i), m, make([]impl.Def, impl.MaxList+1), 1, impl.ErrLong)
	}
	for i, m := range badMachines() {
		if impl.DefsOK(m, nil) || impl.DefsOK(m, defs) {
			t.Errorf("bad machine %d has definitions", i)
		}
	}
}

// wantNoWalk checks that RunTree refuses its arguments.
func wantNoWalk(t *testing.T, what string, m impl.Machine, defs []impl.Def, token, wantCode int) {
	t.Helper()
	got, throw, code := impl.RunTree(m, defs, token)
	wantMachineCode(t, fmt.Sprint("RunTree ", token, " of ", what), got, throw, 0, code, wantCode)
}

func TestTreeOfNumbersThatAreNoTokens(t *testing.T) {
	for size := range len(someSources()) + 1 {
		m, defs := scriptOf("5", someSources()[:size]...)
		for _, n := range notTokens(m.Words) {
			what := fmt.Sprint("a machine with ", size, " definitions")
			wantNoWalk(t, what, m, defs, n, impl.ErrToken)
			m.Calls = []impl.Call{{}}
			wantNoWalk(t, what+" and a call", m, defs, n, impl.ErrToken)
			m.Calls = nil
		}
	}
}

func TestTreeWithCalls(t *testing.T) {
	m, defs := scriptOf("5", someSources()[:5]...)
	for size := 1; size <= maxCalls; size++ {
		m.Data.Back = filled(maxStack)
		m.Calls = someCalls(size)
		for _, token := range []int{1, 53, 54, 55, 84, 85, 86, 90} {
			wantNoWalk(t, fmt.Sprint("a machine with ", size, " calls"), m, defs, token, impl.ErrState)
		}
	}
}

// TestDefinitionsWithWordsThatAreNoTokens has them where they are executed,
// where they are never reached, and in words that are not executed.
func TestDefinitionsWithWordsThatAreNoTokens(t *testing.T) {
	for _, number := range []int{57, 58, 59, 60, 61, 62, 67, 73, 83, 89, 90, wordNumbers} {
		for _, source := range []string{"w%d", "EXIT w%d", "0 IF w%d THEN", "1 IF 5 ELSE w%d THEN", "BEGIN 1 UNTIL BEGIN 0 WHILE w%d REPEAT", "9 THROW w%d", "1 0 DO EXIT w%d LOOP", "5 w%d w1"} {
			m, defs := scriptOf("5", "DUP", fmt.Sprintf(source, number), "DROP")
			wantDefs(t, "a definition with "+source, m, defs, true)
			for _, token := range []int{1, 53, 54, 84, 86, 87, 88} {
				wantNoWalk(t, fmt.Sprint(source, " with ", number), m, defs, token, impl.ErrToken)
				m.Calls = []impl.Call{{}}
				wantNoWalk(t, fmt.Sprint(source, " with ", number, " and a call"), m, defs, token, impl.ErrState)
				m.Calls = nil
			}
			wantNoWalk(t, fmt.Sprint(source, " with ", number), m, defs[1:], 1, impl.ErrBad)
		}
	}
	m, defs := scriptOf("5", "1 IF EXIT w63 w66 w84 w85 w86 w87 w52 w53 w54 w55 w56 THEN", "57 DROP")
	if _, _, code := impl.RunTree(m, defs, 1); code != impl.OK {
		t.Errorf("a definition with tokens has the code %d", code)
	}
}
