package tests

// Promise 11, the machine itself: which machines are valid, and which two are
// the same.

import (
	"fmt"
	"slices"
	"testing"

	"loop.example/g00787/impl"
)

const (
	maxCalls = 16
	maxFuel  = 4000
)

// equalMachines does not rely on SameMachine.
func equalMachines(a, b impl.Machine) bool {
	return slices.Equal(a.Words, b.Words) && slices.Equal(a.Code, b.Code) && equalData(a.Data, b.Data) && equalHosts(a.Host, b.Host) &&
		slices.Equal(a.Calls, b.Calls) && a.Ip == b.Ip && a.Fuel == b.Fuel
}

func isZeroMachine(m impl.Machine) bool {
	return equalMachines(m, impl.Machine{})
}

func clonedMachine(m impl.Machine) impl.Machine {
	m.Words, m.Code, m.Calls = slices.Clone(m.Words), slices.Clone(m.Code), slices.Clone(m.Calls)
	m.Data, m.Host = clonedData(m.Data), clonedHost(m.Host)
	return m
}

// someCalls need a cell on Back for every two calls. Every third one before the
// last catches.
func someCalls(size int) []impl.Call {
	list := make([]impl.Call, size)
	for i := range list {
		list[i] = impl.Call{Ip: 10 + i, Floor: i / 2}
		if i%3 == 1 && i < size-1 {
			list[i].Catch, list[i].Depth = true, i%5
		}
	}
	return list
}

// fullMachine has as much of everything as a machine may have.
func fullMachine() impl.Machine {
	code := make([]int, maxCode)
	for i := range code {
		code[i] = i - 200
	}
	return impl.Machine{Words: dictOf(maxUser), Code: code, Data: dataOf(maxStack, maxStack, maxCells), Host: hostOf(maxAnswers, maxDeeds, 0, 1, 2, 3), Calls: someCalls(maxCalls), Ip: maxCell, Fuel: maxFuel}
}

// plainMachine has a part of everything.
func plainMachine() impl.Machine {
	return impl.Machine{Words: dictOf(5), Code: []int{1, 57, 5, 53}, Data: dataOf(4, 9, 5), Host: hostOf(3, 4, 0, 3), Calls: someCalls(6), Ip: 3, Fuel: 70}
}

// machinesTurned has one machine for each way to turn a plain one.
func machinesTurned(turns ...func(m *impl.Machine)) []impl.Machine {
	var list []impl.Machine
	for _, turn := range turns {
		m := plainMachine()
		turn(&m)
		list = append(list, m)
	}
	return list
}

// withCalls has calls on a Back of four cells.
func withCalls(calls ...impl.Call) impl.Machine {
	m := plainMachine()
	m.Data = dataOf(3, 4, 5)
	m.Calls = calls
	return m
}

func validMachines() []impl.Machine {
	list := []impl.Machine{impl.NewMachine(), plainMachine(), fullMachine()}
	turned := func(turn func(m *impl.Machine)) {
		list = append(list, machinesTurned(turn)...)
	}
	for _, words := range validDicts() {
		turned(func(m *impl.Machine) { m.Words = words })
	}
	for _, code := range [][]int{nil, {}, {0}, {minCell}, {maxCell}, {-1, 104, 57}, cells(), make([]int, maxCode-1), slices.Repeat([]int{minCell, maxCell}, maxCode/2)} {
		turned(func(m *impl.Machine) { m.Code = code })
	}
	for _, d := range validData() {
		turned(func(m *impl.Machine) { m.Data, m.Calls = d, nil })
	}
	for _, h := range validHosts() {
		turned(func(m *impl.Machine) { m.Host = h })
	}
	for size := range maxCalls + 1 {
		turned(func(m *impl.Machine) { m.Calls = someCalls(size) })
	}
	for _, ip := range []int{0, 1, 3, 4, 5, maxCode, maxCell - 1, maxCell} {
		turned(func(m *impl.Machine) { m.Ip = ip })
	}
	for _, fuel := range []int{0, 1, maxFuel - 1, maxFuel} {
		turned(func(m *impl.Machine) { m.Fuel = fuel })
	}
	return append(list, validCalls()...)
}

func validCalls() []impl.Machine {
	var list []impl.Machine
	for floor := range 5 {
		list = append(list, withCalls(impl.Call{Floor: floor}), withCalls(impl.Call{}, impl.Call{Floor: floor}), withCalls(impl.Call{Floor: floor}, impl.Call{Floor: 4}))
	}
	for depth := range maxStack {
		list = append(list, withCalls(impl.Call{Catch: true, Depth: depth}, impl.Call{}), withCalls(impl.Call{}, impl.Call{Floor: 4, Catch: true, Depth: depth}, impl.Call{Floor: 4}))
	}
	for _, ip := range []int{0, 1, maxCode, maxCell - 1, maxCell} {
		list = append(list, withCalls(impl.Call{Ip: ip}), withCalls(impl.Call{Ip: ip, Catch: true}, impl.Call{Ip: maxCell - ip}))
	}
	return append(list, withCalls(slices.Repeat([]impl.Call{{Floor: 4}}, maxCalls)...))
}

// badMachines are valid but for one part.
func badMachines() []impl.Machine {
	list := []impl.Machine{{}}
	turned := func(turn func(m *impl.Machine)) {
		list = append(list, machinesTurned(turn)...)
	}
	for _, words := range badDicts() {
		turned(func(m *impl.Machine) { m.Words = words })
	}
	for _, size := range []int{1, 2, maxCode, impl.MaxList} {
		turned(func(m *impl.Machine) { m.Code = make([]int, maxCode+size) })
	}
	for _, n := range notCells() {
		for place := range 4 {
			turned(func(m *impl.Machine) { m.Code[place] = n })
		}
		turned(func(m *impl.Machine) { m.Code = append(make([]int, maxCode-1), n) })
	}
	for _, d := range badData() {
		turned(func(m *impl.Machine) { m.Data, m.Calls = d, nil })
		turned(func(m *impl.Machine) { m.Data, m.Calls = d, []impl.Call{{}} })
	}
	for _, h := range badHosts() {
		turned(func(m *impl.Machine) { m.Host = h })
	}
	for _, ip := range []int{minInt, minCell, -2, -1, maxCell + 1, maxCell + 2, 1 << 32, maxInt} {
		turned(func(m *impl.Machine) { m.Ip = ip })
	}
	for _, fuel := range []int{minInt, minCell, -2, -1, maxFuel + 1, maxFuel + 2, 1 << 32, maxInt} {
		turned(func(m *impl.Machine) { m.Fuel = fuel })
	}
	return append(list, badCalls()...)
}

func badCalls() []impl.Machine {
	good, caught := impl.Call{Floor: 2}, impl.Call{Floor: 2, Depth: 3, Catch: true}
	list := []impl.Machine{withCalls(caught), withCalls(good, caught), withCalls(caught, good, caught), withCalls(impl.Call{Catch: true})}
	for _, size := range []int{1, 2, maxCalls, impl.MaxList} {
		list = append(list, withCalls(make([]impl.Call, maxCalls+size)...))
	}
	for _, ip := range []int{minInt, minCell, -2, -1, maxCell + 1, 1 << 32, maxInt} {
		for _, catch := range []bool{false, true} {
			bad := impl.Call{Ip: ip, Floor: 2, Catch: catch}
			list = append(list, withCalls(bad, good), withCalls(good, bad, good), withCalls(good, impl.Call{Ip: ip, Floor: 2}))
		}
	}
	for _, floor := range []int{minInt, minCell, -1, 0, 1, 5, 6, maxStack, maxCell, maxInt} {
		bad := impl.Call{Floor: floor}
		list = append(list, withCalls(good, bad), withCalls(caught, bad), withCalls(good, bad, impl.Call{Floor: 4}), withCalls(good, good, bad))
		if floor < 0 || floor > 4 {
			list = append(list, withCalls(bad), withCalls(impl.Call{Floor: floor, Catch: true}, good), withCalls(bad, bad))
		}
	}
	for _, depth := range []int{minInt, minCell, -1, 1, 2, maxStack - 1, maxStack, maxCell, maxInt} {
		bad := impl.Call{Floor: 2, Depth: depth}
		list = append(list, withCalls(bad), withCalls(bad, good), withCalls(good, bad), withCalls(caught, bad))
	}
	for _, depth := range []int{minInt, minCell, -2, -1, maxStack, maxStack + 1, maxCell, 1 << 32, maxInt} {
		bad := impl.Call{Floor: 2, Depth: depth, Catch: true}
		list = append(list, withCalls(bad, good), withCalls(good, bad, good), withCalls(caught, bad, caught, good))
	}
	return list
}

func TestLimitsOfMachines(t *testing.T) {
	limits := []int{impl.MaxCalls, impl.MaxFuel}
	if !slices.Equal(limits, []int{maxCalls, maxFuel}) {
		t.Errorf("the limits are %v", limits)
	}
}

func TestNewMachine(t *testing.T) {
	want := impl.Machine{Words: kernelWords(), Data: impl.Data{Cells: make([]int, maxCells), Base: 10}, Host: impl.Host{Granted: make([]bool, capCount), Store: make([]int, storeSize)}}
	if got := impl.NewMachine(); !equalMachines(got, want) {
		t.Errorf("NewMachine() = %v", got)
	}
}

func TestMachineOK(t *testing.T) {
	for i, m := range validMachines() {
		if !impl.MachineOK(m) {
			t.Errorf("valid machine %d is refused: %v", i, m)
		}
	}
	for i, m := range badMachines() {
		if impl.MachineOK(m) {
			t.Errorf("invalid machine %d is accepted: %v", i, m)
		}
	}
}

// machineVariants has valid machines that differ from the plain one in a part.
func machineVariants() []impl.Machine {
	list := machinesTurned(
		func(m *impl.Machine) { m.Words = dictOf(4) },
		func(m *impl.Machine) { m.Words = dictOf(6) },
		func(m *impl.Machine) { m.Words[kernelSize].Name = "Colon" },
		func(m *impl.Machine) { m.Words[kernelSize+4].Value += 4 },
		func(m *impl.Machine) { m.Words[kernelSize+4] = impl.Word{Name: "v1", Kind: impl.WdConst, Value: 4100} },
		func(m *impl.Machine) { m.Code = m.Code[:3] },
		func(m *impl.Machine) { m.Code = m.Code[1:] },
		func(m *impl.Machine) { m.Code = append(m.Code, 0) },
		func(m *impl.Machine) { m.Calls = m.Calls[:5:5]; m.Calls[4] = impl.Call{Ip: 14, Floor: 2} },
		func(m *impl.Machine) { m.Calls = m.Calls[1:] },
		func(m *impl.Machine) { m.Calls = nil },
		func(m *impl.Machine) { m.Calls = append(m.Calls, impl.Call{Floor: 9}) },
		func(m *impl.Machine) { m.Calls[1].Catch, m.Calls[1].Depth = false, 0 },
		func(m *impl.Machine) { m.Calls[1].Depth++ },
		func(m *impl.Machine) { m.Calls[5].Floor++ },
		func(m *impl.Machine) { m.Ip++ },
		func(m *impl.Machine) { m.Fuel-- },
	)
	turned := func(turn func(m *impl.Machine)) {
		list = append(list, machinesTurned(turn)...)
	}
	for i := range 4 {
		turned(func(m *impl.Machine) { m.Code[i] ^= 1 })
	}
	for i := range 6 {
		turned(func(m *impl.Machine) { m.Calls[i].Ip++ })
	}
	for _, d := range variants(plainMachine().Data) {
		turned(func(m *impl.Machine) { m.Data = d })
	}
	for _, h := range hostVariants(plainMachine().Host) {
		turned(func(m *impl.Machine) { m.Host = h })
	}
	return list
}

func TestSameMachine(t *testing.T) {
	for i, a := range validMachines() {
		if !impl.SameMachine(a, clonedMachine(a)) {
			t.Errorf("valid machine %d is not the same as its copy", i)
		}
		for k, b := range validMachines()[:40] {
			if impl.SameMachine(a, b) != equalMachines(a, b) {
				t.Errorf("SameMachine of %d and %d", i, k)
			}
		}
	}
	for i, other := range machineVariants() {
		if !impl.MachineOK(other) {
			t.Fatalf("variant %d is not valid: %v", i, other)
		}
		if impl.SameMachine(plainMachine(), other) || impl.SameMachine(other, plainMachine()) {
			t.Errorf("variant %d passes for the same: %v", i, other)
		}
	}
}

func TestSameMachineTakesNilForEmpty(t *testing.T) {
	a, b := impl.NewMachine(), impl.NewMachine()
	a.Code, a.Calls, a.Data.Stack = nil, []impl.Call{}, nil
	b.Code, b.Calls, b.Data.Stack = []int{}, nil, []int{}
	if !impl.SameMachine(a, b) {
		t.Error("nil is not the same as an empty list")
	}
}

func TestSameMachineRefusesInvalidMachines(t *testing.T) {
	for i, bad := range badMachines() {
		if impl.SameMachine(bad, bad) || impl.SameMachine(bad, clonedMachine(bad)) || impl.SameMachine(bad, plainMachine()) || impl.SameMachine(plainMachine(), bad) {
			t.Errorf("invalid machine %d is the same as something", i)
		}
	}
}

// wantMachineCode checks that a call on a machine is refused.
func wantMachineCode(t *testing.T, what string, got impl.Machine, throw, steps, code, wantCode int) {
	t.Helper()
	if code != wantCode || throw != 0 || steps != 0 || !isZeroMachine(got) {
		t.Errorf("%s = %v, %d, %d, %d, not the code %d", what, got, throw, steps, code, wantCode)
	}
}

// wantNoBegin checks that neither BeginToken nor RunToken takes the token.
func wantNoBegin(t *testing.T, what string, m impl.Machine, token, wantCode int) {
	t.Helper()
	got, throw, code := impl.BeginToken(m, token)
	wantMachineCode(t, fmt.Sprint("BeginToken ", token, " of ", what), got, throw, 0, code, wantCode)
	got, throw, steps, code := impl.RunToken(m, token)
	wantMachineCode(t, fmt.Sprint("RunToken ", token, " of ", what), got, throw, steps, code, wantCode)
}

func wantNoStep(t *testing.T, what string, m impl.Machine, wantCode int) {
	t.Helper()
	got, throw, code := impl.StepMachine(m)
	wantMachineCode(t, "StepMachine of "+what, got, throw, 0, code, wantCode)
}

// notTokens has numbers that are no tokens of a dictionary: no words, inner
// words and words of kind WdSyntax.
func notTokens(words []impl.Word) []int {
	list := []int{minInt, minInt + 1, minCell, -84, -2, -1, 0, len(words) + 1, len(words) + 2, 104, 1000, maxCell, 1 << 32, 1<<32 + 1, maxInt}
	for n := 57; n <= 62; n++ {
		list = append(list, n)
	}
	for n := 67; n <= 83; n++ {
		list = append(list, n)
	}
	return list
}

func TestNumbersThatAreNoTokens(t *testing.T) {
	for size := range maxUser + 1 {
		m := plainMachine()
		m.Words, m.Calls = dictOf(size), nil
		for _, n := range notTokens(m.Words) {
			wantNoBegin(t, fmt.Sprint("a machine with ", size, " words"), m, n, impl.ErrToken)
		}
	}
}

func TestEveryTokenIsTaken(t *testing.T) {
	m := plainMachine()
	m.Words, m.Calls = dictOf(maxUser), nil
	for n := 1; n <= len(m.Words); n++ {
		_, _, begun := impl.BeginToken(m, n)
		_, _, _, run := impl.RunToken(m, n)
		if want := slices.Contains(notTokens(m.Words), n); (begun != impl.OK) != want || (run != impl.OK) != want {
			t.Errorf("the token %d has the codes %d and %d", n, begun, run)
		}
	}
}

func TestBeginWithCalls(t *testing.T) {
	for size := 1; size <= maxCalls; size++ {
		m := plainMachine()
		m.Calls = someCalls(size)
		for _, n := range []int{1, 53, 54, 55, 56, 66, 84, 88} {
			wantNoBegin(t, fmt.Sprint("a machine with ", size, " calls"), m, n, impl.ErrState)
		}
		for _, n := range notTokens(m.Words) {
			wantNoBegin(t, fmt.Sprint("a machine with ", size, " calls"), m, n, impl.ErrToken)
		}
	}
}

func TestStepWithoutCalls(t *testing.T) {
	for i, m := range validMachines() {
		m.Calls = nil
		wantNoStep(t, fmt.Sprint("machine ", i), m, impl.ErrState)
	}
}

// TestInvalidMachines has machines with and without calls.
func TestInvalidMachines(t *testing.T) {
	for i, m := range badMachines() {
		what := fmt.Sprint("invalid machine ", i)
		for _, n := range []int{1, 53, 84, 0, -1, 57, 67, 104, minInt, maxInt} {
			wantNoBegin(t, what, m, n, impl.ErrBad)
		}
		wantNoStep(t, what, m, impl.ErrBad)
		m.Calls = nil
		if !impl.MachineOK(m) {
			wantNoBegin(t, what+" without calls", m, 1, impl.ErrBad)
			wantNoBegin(t, what+" without calls", m, 0, impl.ErrBad)
			wantNoStep(t, what+" without calls", m, impl.ErrBad)
		}
	}
}
