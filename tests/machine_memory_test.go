package tests

// Promise 1 for the machine: no function changes its argument, not even the
// unused capacity of its slices, and no slice of a result shares memory with
// an argument or with another slice of the result.

import (
	"fmt"
	"slices"
	"testing"

	"loop.example/g00787/impl"
)

var unusedCall = impl.Call{Ip: unused, Floor: unused, Depth: unused, Catch: true}

func callsWithRoom(list []impl.Call) []impl.Call {
	memory := append(slices.Clone(list), slices.Repeat([]impl.Call{unusedCall}, maxCalls+8)...)
	return memory[:len(list)]
}

func spoilCalls(list []impl.Call) {
	list = list[:cap(list)]
	for i := range list {
		list[i] = unusedCall
	}
}

func machineWithRoom(m impl.Machine) impl.Machine {
	m.Words, _ = wordsWithRoom(m.Words)
	m.Code, _ = withRoom(m.Code)
	m.Data, m.Host = dataWithRoom(m.Data), hostWithRoom(m.Host)
	m.Calls = callsWithRoom(m.Calls)
	return m
}

// machineMemory is all the memory of a machine's slices, also their unused
// capacity.
func machineMemory(m impl.Machine) impl.Machine {
	m.Words, m.Code, m.Calls = m.Words[:cap(m.Words)], m.Code[:cap(m.Code)], m.Calls[:cap(m.Calls)]
	m.Data, m.Host = dataMemory(m.Data), hostMemory(m.Host)
	return m
}

func spoilMachine(m impl.Machine) {
	spoilWords(m.Words)
	spoil(m.Code)
	spoilData(m.Data)
	spoilHost(m.Host)
	spoilCalls(m.Calls)
}

// memoryMachines change each of their parts in one run or step or another.
func memoryMachines() []impl.Machine {
	codes := []string{
		"(LIT) 5 >R (LIT) 87 CATCH R> DROP EXIT",
		"HTIME DROP (LIT) 7 (LIT) 2 HWRITE (LIT) 8 ALLOT (LIT) 9 , w88 EXIT",
		"(LIT) 65 EMIT HEX (LIT) 3 (LIT) 0 (DO) I (LOOP) 46 THROW",
		"w89",
	}
	list := []impl.Machine{impl.NewMachine(), plainMachine(), fullMachine(), {}}
	for _, stacks := range []string{"", "5|6 7", "5 w86", "5 w87|6", "5 DUP CATCH|6", "9 0 THROW", ofCells(31) + " w84|" + ofCells(32)} {
		m := machineOf(stacks, codes...)
		list = append(list, m)
		m.Calls, m.Ip = []impl.Call{{Ip: 4, Depth: 1, Catch: true}, {Ip: 3, Floor: len(m.Data.Back)}}, codeStep
		list = append(list, m)
	}
	return list
}

// machineResults calls every function that returns a machine.
func machineResults(m impl.Machine) map[string]impl.Machine {
	results := map[string]impl.Machine{}
	for _, token := range []int{-1, 1, 2, 12, 53, 54, 55, 56, 57, 64, 66, 84, 85, 86, 87, 88, 89, 200} {
		results[fmt.Sprint("BeginToken ", token)], _, _ = impl.BeginToken(m, token)
		results[fmt.Sprint("RunToken ", token)], _, _, _ = impl.RunToken(m, token)
	}
	results["StepMachine"], _, _ = impl.StepMachine(m)
	for _, cell := range []int{1, 53, 60, 64, 86, 87} {
		m.Code = append([]int{cell}, m.Code[min(1, len(m.Code)):]...)
		m.Ip = 0
		results[fmt.Sprint("StepMachine at ", cell)], _, _ = impl.StepMachine(m)
	}
	return results
}

func TestMachineArgumentsAreUnchanged(t *testing.T) {
	for i, m := range append(memoryMachines(), badMachines()...) {
		own := machineWithRoom(m)
		before := clonedMachine(machineMemory(own))
		machineResults(own)
		impl.MachineOK(own)
		impl.SameMachine(own, own)
		impl.SameMachine(own, plainMachine())
		if !equalMachines(machineMemory(own), before) {
			t.Errorf("machine %d is changed", i)
		}
	}
}

func TestMachineResultsAreNewMemory(t *testing.T) {
	for i, m := range memoryMachines() {
		expected := machineResults(m)
		own := machineWithRoom(m)
		results := machineResults(own)
		spoilMachine(own)
		for what, got := range results {
			if !equalMachines(got, expected[what]) {
				t.Errorf("the result of %s of machine %d shares memory with an argument", what, i)
			}
		}
		for what, got := range results {
			if !equalMachines(got, expected[what]) {
				t.Errorf("the result of %s of machine %d shares memory with another result", what, i)
			}
			spoilMachine(got)
		}
	}
}

// TestMachineSlicesAreApart gives the functions a machine whose slices of cells
// are one piece of memory.
func TestMachineSlicesAreApart(t *testing.T) {
	for i, m := range memoryMachines() {
		if !impl.MachineOK(m) {
			continue
		}
		memory := slices.Repeat([]int{1}, maxCells)
		m.Code, m.Data.Cells, m.Host.Store = memory, memory, memory[:storeSize]
		m.Data.Stack, m.Data.Back, m.Host.Answers = memory[:len(m.Data.Stack)], memory[:len(m.Data.Back)], memory[:len(m.Host.Answers)]
		expected := machineResults(clonedMachine(m))
		for what, got := range machineResults(m) {
			if !equalMachines(got, expected[what]) {
				t.Errorf("%s depends on where its machine %d is: %s", what, i, machineText(got))
			}
			wantApart(t, fmt.Sprint(what, " of machine ", i), got)
		}
		if !slices.Equal(memory, slices.Repeat([]int{1}, maxCells)) {
			t.Errorf("machine %d is changed", i)
		}
	}
}

// wantApart spoils the slices of a machine one after the other.
func wantApart(t *testing.T, what string, m impl.Machine) {
	t.Helper()
	lists := [][]int{m.Code, m.Data.Stack, m.Data.Back, m.Data.Cells, m.Host.Store, m.Host.Answers}
	for i, list := range lists {
		before := clonedLists(lists)
		spoil(list)
		for k, other := range lists {
			if k != i && !slices.Equal(other, before[k]) {
				t.Errorf("the lists %d and %d of the result of %s share memory", i, k, what)
			}
		}
	}
}

func clonedLists(lists [][]int) [][]int {
	var list [][]int
	for _, x := range lists {
		list = append(list, slices.Clone(x))
	}
	return list
}

func TestNewMachineIsNewMemory(t *testing.T) {
	spoilMachine(impl.NewMachine())
	if got := impl.NewMachine(); !impl.MachineOK(got) || !slices.Equal(got.Words, kernelWords()) {
		t.Errorf("NewMachine() = %v", got)
	}
}

// TestStepsLeaveTheirMachine makes the same step of one machine twice, with
// what another step has left of it in between.
func TestStepsLeaveTheirMachine(t *testing.T) {
	for i, m := range memoryMachines() {
		if len(m.Calls) == 0 || !impl.MachineOK(m) {
			continue
		}
		first, _, _ := impl.StepMachine(m)
		want := clonedMachine(first)
		for other := first; len(other.Calls) > 0; {
			other, _, _ = impl.StepMachine(other)
		}
		second, _, _ := impl.StepMachine(m)
		if !equalMachines(first, want) || !equalMachines(second, want) {
			t.Errorf("the steps of machine %d change each other", i)
		}
	}
}
