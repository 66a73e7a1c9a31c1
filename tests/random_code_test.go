package tests

// Promises 10 and 11: whatever the code area contains, a run ends with a valid
// machine, and dictionary and code are unchanged. checkRun also compares each
// of these runs with its steps and with the model.

import (
	"fmt"
	"slices"
	"strings"
	"testing"

	"loop.example/g00787/impl"
)

func pickCell(p *picker) int {
	switch p.below(8) {
	case 0:
		return cells()[p.below(len(cells()))]
	case 1:
		return dataBase + 4*p.below(6)
	case 2, 3:
		return p.below(wordNumbers + 2)
	}
	return p.below(9) - 3
}

func pickCells(p *picker, size int) []int {
	list := make([]int, size)
	for i := range list {
		list[i] = pickCell(p)
	}
	return list
}

// pickWords has the kernel and some words of every kind. Those of kind WdColon
// begin at the places or, some of them, anywhere.
func pickWords(p *picker, count int, places []int) []impl.Word {
	words := kernelWords()
	for i := range count {
		x := impl.Word{Name: fmt.Sprint("w", i), Kind: impl.WdColon, Value: p.below(maxCode)}
		if len(places) > 0 && p.below(20) > 0 {
			x.Value = places[p.below(len(places))]
		}
		switch p.below(8) {
		case 0:
			x.Kind, x.Value = impl.WdVar, dataBase+4*p.below(maxCells)
		case 1:
			x.Kind, x.Value = impl.WdConst, pickCell(p)
		}
		words = append(words, x)
	}
	return words
}

// pickCode has mostly words with what they need, so that runs do not end at
// once, and the places where they begin.
func pickCode(p *picker, words, size int) ([]int, []int) {
	var code, starts []int
	for len(code) < size {
		starts = append(starts, len(code))
		for range 1 + p.below(8) {
			code = append(code, pickPart(p, words, len(code), 3)...)
		}
		code = append(code, 53)
	}
	return code[:size], starts
}

// pickPart has the words with numbers up to the given one. The code begins at
// the address.
func pickPart(p *picker, words, at, depth int) []int {
	inside := func(before ...int) []int {
		if depth == 0 {
			return before
		}
		return append(before, pickPart(p, words, at+len(before), depth-1)...)
	}
	token := []int{p.below(words) + 1, min(kernelSize+1+p.below(maxUser), words), 53 + p.below(4), p.below(primCount) + 1}[p.below(4)]
	if token >= 67 && token <= kernelSize && p.below(20) > 0 {
		token = 63 + token%4 // a host word in place of one of kind WdSyntax
	}
	switch p.below(14) {
	case 0, 1:
		return []int{57, token, 55}
	case 2, 3:
		return []int{57, token, 55, 2}
	case 4:
		return []int{57, token, 55, 55, 2, 2}[p.below(2):]
	case 5:
		return []int{57, token, 54}
	case 6:
		return append(inside(57, p.below(6), 57, p.below(6)-2, 60), 61, at+5)
	case 7:
		return append(inside(57, p.below(6), 57, p.below(6)-2, 60), 57, p.below(7)-3, 62, at+5)
	case 8:
		part := inside(57, p.below(2), 59, 0)
		part[3] = at + len(part)
		return part
	case 9:
		return append(inside(57, pickCell(p), 12), 13)
	case 10:
		return []int{57, pickCell(p), 57, dataBase + 4*p.below(5), 40}
	case 11:
		return []int{57, pickCell(p) * p.below(2), 56}
	case 12:
		return []int{57, p.below(9), 57, p.below(9), 63 + p.below(4)}
	}
	return []int{57, pickCell(p), token}
}

// pickMachine has, in some of the machines, cells of code that are not what
// they should be.
func pickMachine(p *picker) impl.Machine {
	size, count := p.below(maxCode+1), p.below(maxUser+1)
	m := impl.Machine{Data: dataOf(0, 0, p.below(maxCells+1)), Host: hostOf(p.below(4), p.below(maxDeeds+1)), Ip: p.below(size + 2), Fuel: p.below(300)}
	code, places := pickCode(p, kernelSize+count, size)
	m.Code, m.Words = code, pickWords(p, count, places)
	for range p.below(6) * p.below(2) * min(1, size) {
		m.Code[p.below(size)] = pickCell(p)
	}
	for c := range capCount {
		m.Host.Granted[c] = p.below(4) > 0
	}
	m.Data.Stack, m.Data.Back = pickCells(p, p.below(maxStack+1)), pickCells(p, p.below(maxStack+1)*p.below(2))
	m.Data.Out = strings.Repeat("o", maxOut-p.below(20)*p.below(16))
	return m
}

func pickToken(p *picker, words []impl.Word) int {
	for {
		n := p.below(len(words)) + 1
		if p.below(3) > 0 {
			n = max(n, min(kernelSize+1+p.below(maxUser), len(words)))
		}
		if !slices.Contains(notTokens(words), n) {
			return n
		}
		if p.below(4) == 0 {
			return 55
		}
	}
}

func TestRunsOverRandomCode(t *testing.T) {
	p := &picker{state: 8}
	throws, longest := map[int]int{}, 0
	for i := range 10000 {
		m := pickMachine(p)
		_, throw, steps := checkRun(t, fmt.Sprint("random machine ", i), m, pickToken(p, m.Words))
		throws[throw]++
		longest = max(longest, steps)
		if t.Failed() {
			return
		}
	}
	for _, throw := range []int{0, -3, -4, -5, -6, -8, -9, -10, -14, -17, -24, -25, -50, -100, -101} {
		if throws[throw] == 0 {
			t.Errorf("no run throws %d: %v", throw, throws)
		}
	}
	if longest < 100 {
		t.Errorf("no run has more than %d steps", longest)
	}
}

// TestRunsOverAnyCells has code that is not made to be run.
func TestRunsOverAnyCells(t *testing.T) {
	p := &picker{state: 4}
	for i := range 3000 {
		m := pickMachine(p)
		m.Code = pickCells(p, p.below(30))
		checkRun(t, fmt.Sprint("machine ", i, " with any cells"), m, pickToken(p, m.Words))
		if t.Failed() {
			return
		}
	}
}

// pickCalls has calls of every kind that a machine with so many cells on Back
// may have.
func pickCalls(p *picker, back int) []impl.Call {
	list := make([]impl.Call, 1+p.below(maxCalls))
	floor := 0
	for i := range list {
		floor += p.below(back - floor + 1)
		list[i] = impl.Call{Ip: p.below(60), Floor: floor}
		if i < len(list)-1 && p.below(2) == 0 {
			list[i].Catch, list[i].Depth = true, p.below(maxStack)
		}
	}
	return list
}

// TestStepsOfRandomMachines makes steps of machines to which no run would lead.
func TestStepsOfRandomMachines(t *testing.T) {
	p := &picker{state: 21}
	caught := 0
	for i := range 8000 {
		m := pickMachine(p)
		m.Calls = pickCalls(p, len(m.Data.Back))
		m.Ip = min(m.Ip, max(0, len(m.Code)-1))
		before := clonedMachine(m)
		got, throw, code := impl.StepMachine(m)
		wantStep(t, fmt.Sprint("random machine ", i), before, got, 0, throw, code)
		if !equalMachines(m, before) {
			t.Errorf("a step of random machine %d changes its argument", i)
		}
		if throw == 0 && len(got.Calls) < len(m.Calls)-1 {
			caught++
		}
		if t.Failed() {
			return
		}
	}
	if caught < 1000 {
		t.Errorf("%d throws were caught", caught)
	}
}

// TestStepOfEveryNumber has every number of a word, and others, as the next
// cell of code, with and without an operand, on stacks of every kind.
func TestStepOfEveryNumber(t *testing.T) {
	list := []int{minCell, -200, wordNumbers + 2, 1000, maxCell}
	for number := -2; number <= wordNumbers+1; number++ {
		list = append(list, number)
	}
	for _, number := range list {
		for i, d := range []impl.Data{dataOf(0, 0, 5), dataOf(1, 1, 5), dataOf(2, 2, 5), dataOf(3, 4, 5), dataOf(31, 30, 31), dataOf(32, 31, 32), dataOf(32, 32, 32)} {
			for _, calls := range [][]impl.Call{{{Ip: 9}}, {{Ip: 9, Floor: len(d.Back)}}, {{Ip: 8, Floor: len(d.Back) / 2, Depth: 2, Catch: true}, {Ip: 9, Floor: len(d.Back)}}, slices.Repeat([]impl.Call{{Ip: 8, Depth: 3, Catch: true}, {Ip: 9}}, maxCalls/2)} {
				for _, code := range [][]int{{number}, {number, 0}, {number, -1}, {number, 1}, {number, maxCell}, {number, 86}} {
					m := machineOf("", "EXIT")
					m.Data, m.Code, m.Calls, m.Ip = clonedData(d), code, calls, 0
					got, throw, problem := impl.StepMachine(m)
					wantStep(t, fmt.Sprint("number ", number, " on data ", i), m, got, 0, throw, problem)
				}
			}
		}
	}
}

// TestStepsBehindTheCode find no word, wherever they are.
func TestStepsBehindTheCode(t *testing.T) {
	for _, code := range [][]int{nil, {1}, {57, 5}, make([]int, maxCode)} {
		for _, ip := range []int{len(code), len(code) + 1, maxCode, maxCode + 1, 1 << 20, maxCell - 1, maxCell} {
			m := machineOf("5|6 7")
			m.Code, m.Ip, m.Calls = code, ip, []impl.Call{{Ip: maxCell, Floor: 1}}
			want := clonedMachine(m)
			want.Calls, want.Ip, want.Fuel = nil, 0, someFuel-1
			got, throw, problem := impl.StepMachine(m)
			if throw != -24 || problem != impl.OK || !equalMachines(got, want) {
				t.Errorf("a step at %d of %d cells leaves %s, %d, %d", ip, len(code), machineText(got), throw, problem)
			}
		}
	}
}

// TestFarAddresses has calls that return to, and catch at, the largest address.
func TestFarAddresses(t *testing.T) {
	m := machineOf("5", "EXIT")
	m.Ip = maxCell
	for _, token := range []int{1, 55, 86} {
		m.Data.Stack = []int{5, 86}
		got, throw, _ := checkRun(t, "a run at the largest address", m, token)
		if throw != 0 || got.Ip != maxCell {
			t.Errorf("a run of %d from the largest address ends at %d, %d", token, got.Ip, throw)
		}
	}
}
