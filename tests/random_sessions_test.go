package tests

// Promises 13 and 15 for sessions that nobody has chosen: whatever the actions
// are, they have the effect of their table and leave a valid Forth, and their
// reports do not depend on later ones.

import (
	"fmt"
	"slices"
	"testing"

	"loop.example/g00787/impl"
)

func pickAct(p *picker) impl.Act {
	switch p.below(14) {
	case 0, 1:
		return grant(p.below(capCount))
	case 2:
		return revoke(p.below(capCount))
	case 3, 4:
		return refuel(1 + p.below([]int{3, 60, maxFuel}[p.below(3)]))
	case 5:
		return answer(pickCell(p))
	case 6:
		return tick(1 + p.below(1000))
	case 7, 8:
		return eval([]string{"3 hread", "7 2 hwrite", "9 hask .", "htime", "' htime catch", ": ask 0 hask ;", "' ask catch", "1 0 /", "9 hread", "drop drop drop"}[p.below(10)])
	}
	return eval(pickLine(p))
}

func pickActs(p *picker, count int) []impl.Act {
	var acts []impl.Act
	for range count {
		acts = append(acts, pickAct(p))
	}
	return acts
}

func TestRandomSessions(t *testing.T) {
	p := &picker{state: 12}
	kinds, throws, deeds := map[int]int{}, map[int]int{}, 0
	for i := range 300 {
		acts := pickActs(p, p.below(maxActs+1))
		f, reports := runActs(t, acts)
		for k, r := range reports {
			kinds[acts[k].Kind]++
			throws[r.Throw]++
		}
		deeds += len(f.Machine.Host.Deeds)
		checkRandomTrees(t, p, f)
		if t.Failed() {
			t.Fatalf("session %d: %v", i, acts)
		}
	}
	for kind := acGrant; kind <= acEval; kind++ {
		if kinds[kind] < 100 {
			t.Errorf("only %d actions are of kind %d", kinds[kind], kind)
		}
	}
	for _, throw := range []int{0, -4, -9, -10, -13, -14, -22, -100, -101} {
		if throws[throw] == 0 {
			t.Errorf("no action throws %d: %v", throw, throws)
		}
	}
	if deeds < 50 {
		t.Errorf("there are only %d deeds", deeds)
	}
}

// checkRandomTrees compares the code and the tree of each word of the script.
func checkRandomTrees(t *testing.T, p *picker, f impl.Forth) {
	t.Helper()
	for _, x := range f.Defs {
		m := clonedMachine(f.Machine)
		m.Data.Stack, m.Fuel = pickCells(p, p.below(6)), p.below(100)
		checkTree(t, fmt.Sprint("the word ", x.Word), m, f.Defs, x.Word)
	}
}

// TestRandomActions starts with a Forth that no session leaves.
func TestRandomActions(t *testing.T) {
	p := &picker{state: 13}
	for range 300 {
		f := pickForth(p)
		f.Machine.Fuel = []int{0, p.below(80), maxFuel - p.below(80), maxFuel}[p.below(4)]
		for _, a := range pickActs(p, 10) {
			f, _ = doAct(t, f, a)
		}
		if t.Failed() {
			return
		}
	}
}

// TestRandomInvalidSessions has one action that is not valid at any place.
func TestRandomInvalidSessions(t *testing.T) {
	p := &picker{state: 14}
	bad := badActs()
	for range 300 {
		acts := pickActs(p, p.below(maxActs))
		place := p.below(len(acts) + 1)
		wantNoSession(t, slices.Insert(acts, place, bad[p.below(len(bad))]), impl.ErrBad)
	}
}
