package tests

// Chapter 9 read a second time: what a step and a run should do. The words are
// worked one within the other, and throws unwind call by call; primitives and
// host words are those of the models of chapters 6 and 7. Every run that a
// test asks for is compared with this model and with its own steps.

import (
	"fmt"
	"slices"
	"strings"
	"testing"

	"loop.example/g00787/impl"
)

// wordWork changes the machine and returns the throw.
func wordWork(m *impl.Machine, number int) int {
	if m.Fuel == 0 {
		return -101
	}
	m.Fuel--
	if number < 1 || number > len(m.Words) {
		return -24
	}
	x, throw := m.Words[number-1], -24
	switch x.Kind {
	case 1:
		m.Data, throw = primResult(m.Data, x.Name, floorOf(*m))
	case 2:
		throw = flowWork(m, x.Name)
	case 3:
		throw = innerWork(m, x.Name)
	case 4:
		m.Host, m.Data, throw = callResult(m.Host, m.Data, number-63)
	case 6:
		throw = beginWork(m, impl.Call{Ip: m.Ip, Floor: len(m.Data.Back)})
		if throw == 0 {
			m.Ip = x.Value
		}
	case 7, 8:
		throw = pushWork(m, x.Value)
	}
	return throw
}

func floorOf(m impl.Machine) int {
	floor := 0
	for _, x := range m.Calls {
		floor = x.Floor
	}
	return floor
}

func pushWork(m *impl.Machine, n int) int {
	if len(m.Data.Stack) == maxStack {
		return -3
	}
	m.Data.Stack = append(m.Data.Stack, n)
	return 0
}

func beginWork(m *impl.Machine, x impl.Call) int {
	if len(m.Calls) == maxCalls {
		return -50
	}
	m.Calls = append(m.Calls, x)
	return 0
}

func flowWork(m *impl.Machine, name string) int {
	size := len(m.Data.Stack)
	if name == "EXIT" {
		return exitWork(m)
	}
	if size == 0 {
		return -4
	}
	top := m.Data.Stack[size-1]
	if name == "THROW" {
		if top == 0 {
			m.Data.Stack = m.Data.Stack[:size-1]
		}
		if top == -101 {
			return -24
		}
		return top
	}
	if slices.Contains(notTokens(m.Words), top) || top < 1 || top > len(m.Words) {
		return -24
	}
	m.Data.Stack = m.Data.Stack[:size-1]
	if name == "CATCH" {
		if throw := beginWork(m, impl.Call{Ip: m.Ip, Floor: len(m.Data.Back), Depth: size - 1, Catch: true}); throw != 0 {
			return throw
		}
	}
	return wordWork(m, top)
}

func exitWork(m *impl.Machine) int {
	last := len(m.Calls) - 1
	switch {
	case last < 0 || m.Calls[last].Catch:
		return -14
	case len(m.Data.Back) != m.Calls[last].Floor:
		return -25
	}
	m.Ip, m.Calls = m.Calls[last].Ip, m.Calls[:last]
	return 0
}

func innerWork(m *impl.Machine, name string) int {
	if name == "(DO)" {
		return doWork(m)
	}
	if m.Ip >= len(m.Code) {
		return -24
	}
	x := m.Code[m.Ip]
	m.Ip++
	if name == "(LIT)" {
		return pushWork(m, x)
	}
	top, rest := 1, len(m.Data.Stack)-1
	if strings.ContainsAny(name, "0+") {
		if rest < 0 {
			return -4
		}
		top, m.Data.Stack = m.Data.Stack[rest], m.Data.Stack[:rest]
	}
	if strings.Contains(name, "0") && top != 0 {
		return 0
	}
	if strings.Contains(name, "LOOP") {
		ends, throw := loopWork(m, top)
		if ends || throw != 0 {
			return throw
		}
	}
	if x < 0 {
		return -24
	}
	m.Ip = x
	return 0
}

func doWork(m *impl.Machine) int {
	rest := len(m.Data.Stack) - 2
	switch {
	case rest < 0:
		return -4
	case len(m.Data.Back) > maxStack-2:
		return -5
	}
	m.Data.Back = slices.Concat(m.Data.Back, m.Data.Stack[rest:])
	m.Data.Stack = m.Data.Stack[:rest]
	return 0
}

// loopWork relies on sums of 64 bits: where the signs allow the loop to end,
// the sum of distance and step is a cell.
func loopWork(m *impl.Machine, step int) (bool, int) {
	rest := len(m.Data.Back) - 2
	if rest < floorOf(*m) {
		return false, -6
	}
	limit, index := m.Data.Back[rest], m.Data.Back[rest+1]
	distance := wrapBig(whole(index - limit))
	if distance < 0 && step >= 0 && distance+step >= 0 || distance >= 0 && step < 0 && distance+step < 0 {
		m.Data.Back = m.Data.Back[:rest]
		return true, 0
	}
	m.Data.Back[rest+1] = wrapBig(whole(index + step))
	return false, 0
}

// stepWork changes the machine by a step and returns the uncaught throw.
func stepWork(m *impl.Machine, number int) int {
	throw := wordWork(m, number)
	for {
		if throw != 0 && !unwound(m, throw) {
			return throw
		}
		last := len(m.Calls) - 1
		if last < 0 || !m.Calls[last].Catch {
			return 0
		}
		m.Ip, m.Calls = m.Calls[last].Ip, m.Calls[:last]
		throw = pushWork(m, 0)
	}
}

// unwound returns whether the throw is caught.
func unwound(m *impl.Machine, throw int) bool {
	for throw != -101 && len(m.Calls) > 0 {
		last := m.Calls[len(m.Calls)-1]
		m.Calls = m.Calls[:len(m.Calls)-1]
		if last.Catch {
			m.Ip = last.Ip
			m.Data.Back = m.Data.Back[:last.Floor]
			m.Data.Stack = append(slices.Concat(m.Data.Stack, make([]int, maxStack))[:last.Depth], throw)
			return true
		}
	}
	m.Calls, m.Ip = nil, 0
	return false
}

// numberAt is the word of the next step.
func numberAt(m *impl.Machine) int {
	number := 0
	if m.Ip < len(m.Code) {
		number = m.Code[m.Ip]
	}
	m.Ip++
	return number
}

// machineText leaves out the kernel, and is empty for a zero machine.
func machineText(m impl.Machine) string {
	if isZeroMachine(m) {
		return ""
	}
	return fmt.Sprint(m.Words[min(kernelSize, len(m.Words)):], m.Code, m.Data, m.Host, m.Calls, m.Ip, " ", m.Fuel)
}

// wantStep checks one step that has just been made of a machine. Without a
// token it is the step of StepMachine.
func wantStep(t *testing.T, what string, before, got impl.Machine, token, throw, code int) {
	t.Helper()
	want := clonedMachine(before)
	if token == 0 {
		token = numberAt(&want)
	}
	wantThrow := stepWork(&want, token)
	if code != impl.OK || throw != wantThrow || !equalMachines(got, want) {
		t.Errorf("%s: a step of %s = %s, %d, %d, not %s, %d", what, machineText(before), machineText(got), throw, code, machineText(want), wantThrow)
	}
	if !impl.MachineOK(got) {
		t.Errorf("%s: a step of %v leaves an invalid machine %s", what, machineText(before), machineText(got))
	}
	if !slices.Equal(got.Words, before.Words) || !slices.Equal(got.Code, before.Code) {
		t.Errorf("%s: a step of %s changes dictionary or code", what, machineText(before))
	}
	if got.Fuel >= before.Fuel && (before.Fuel > 0 || throw != -101 || got.Fuel != 0) {
		t.Errorf("%s: a step of %s takes no fuel", what, machineText(before))
	}
}

// stepsOf makes the steps of a run one by one and checks each of them.
func stepsOf(t *testing.T, what string, m impl.Machine, token int) (impl.Machine, int, int) {
	t.Helper()
	before := clonedMachine(m)
	next, throw, code := impl.BeginToken(m, token)
	wantStep(t, what, before, next, token, throw, code)
	steps := 1
	for len(next.Calls) > 0 && steps <= maxFuel+1 {
		before = next
		next, throw, code = impl.StepMachine(before)
		wantStep(t, what, before, next, 0, throw, code)
		steps++
	}
	return next, throw, steps
}

// checkRun makes a run, checks what holds for every run, and returns what
// RunToken returns.
func checkRun(t *testing.T, what string, m impl.Machine, token int) (impl.Machine, int, int) {
	t.Helper()
	before := clonedMachine(m)
	got, throw, steps, code := impl.RunToken(m, token)
	last, lastThrow, count := stepsOf(t, what, m, token)
	if code != impl.OK || throw != lastThrow || steps != count || !equalMachines(got, last) {
		t.Errorf("%s: a run of %d = %s, %d, %d, %d, but its steps lead to %s, %d, %d", what, token, machineText(got), throw, steps, code, machineText(last), lastThrow, count)
	}
	if !equalMachines(m, before) {
		t.Errorf("%s: a run of %d changes its argument", what, token)
	}
	if !impl.MachineOK(got) || len(got.Calls) > 0 || !slices.Equal(got.Words, before.Words) || !slices.Equal(got.Code, before.Code) {
		t.Errorf("%s: a run of %d ends with %s", what, token, machineText(got))
	}
	if throw == 0 && got.Ip != before.Ip || throw != 0 && got.Ip != 0 {
		t.Errorf("%s: a run of %d ends at %d, with the throw %d", what, token, got.Ip, throw)
	}
	if used := before.Fuel - got.Fuel; steps > used+1 || steps > used && (throw != -101 || got.Fuel != 0) {
		t.Errorf("%s: a run of %d has %d steps and uses %d", what, token, steps, used)
	}
	return got, throw, steps
}
