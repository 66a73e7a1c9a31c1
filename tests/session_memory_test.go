package tests

// Promise 1 for the sessions: no function changes its argument, not even the
// unused capacity of its slices, and no slice of a result shares memory with
// an argument or with another slice of the result.

import (
	"fmt"
	"slices"
	"testing"

	"loop.example/g00787/impl"
)

func memoryActs() []impl.Act {
	list := append(someActs(), grant(0), revoke(2), refuel(maxFuel), answer(maxCell), tick(1000), eval(""), eval("zap"), impl.Act{}, impl.Act{Kind: 7})
	for _, line := range memoryLines() {
		list = append(list, eval(line))
	}
	return list
}

// actResults performs each action.
func actResults(f impl.Forth) map[string]evalResult {
	results := map[string]evalResult{}
	for _, a := range memoryActs() {
		got, report, _ := impl.DoAct(f, a)
		results[fmt.Sprint("DoAct ", a)] = evalResult{got, []impl.Report{report}}
	}
	return results
}

func TestActArgumentsAreUnchanged(t *testing.T) {
	for i, f := range slices.Concat(memoryForths(), actForths(), invalidForths()) {
		own := forthWithRoom(f)
		before := forthMemory(own)
		actResults(own)
		if !equalForths(forthMemory(own), before) {
			t.Errorf("Forth %d is changed", i)
		}
	}
}

func TestActResultsAreNewMemory(t *testing.T) {
	for i, f := range append(memoryForths(), actForths()...) {
		expected := actResults(f)
		own := forthWithRoom(f)
		results := actResults(own)
		spoilForth(own)
		for what, got := range results {
			if !equalResults(got, expected[what]) {
				t.Errorf("the result of %s of Forth %d shares memory with an argument", what, i)
			}
		}
		for what, got := range results {
			if !equalResults(got, expected[what]) {
				t.Errorf("the result of %s of Forth %d shares memory with another result", what, i)
			}
			spoilResult(got)
		}
	}
}

// TestActSlicesAreApart has results of ordinary arguments, and of a Forth whose
// slices are one piece of memory.
func TestActSlicesAreApart(t *testing.T) {
	for i, f := range append(memoryForths(), actForths()...) {
		for what, got := range actResults(f) {
			wantResultApart(t, fmt.Sprint(what, " of Forth ", i), got)
		}
	}
	memory := slices.Repeat([]int{1}, maxCells)
	f := newForth("")
	f.Machine.Data.Cells, f.Machine.Host.Store = memory, memory[:storeSize]
	f.Machine.Data.Stack, f.Machine.Data.Back, f.Machine.Host.Answers = memory[:9], memory[:3], memory[:5]
	expected := actResults(clonedForth(f))
	for what, got := range actResults(f) {
		if !equalResults(got, expected[what]) {
			t.Errorf("%s depends on where its Forth is: %s", what, forthText(got.forth))
		}
		wantResultApart(t, what, got)
	}
	if !slices.Equal(memory, slices.Repeat([]int{1}, maxCells)) {
		t.Error("the Forth is changed")
	}
}

// TestActionsOfSessionsAreUnchanged has unused capacity behind the actions.
func TestActionsOfSessionsAreUnchanged(t *testing.T) {
	for _, acts := range append(someSessions(), slices.Repeat(someActs(), 7), []impl.Act{eval("zap"), {}}) {
		memory := append(slices.Clone(acts), grant(1), impl.Act{Kind: 7, N: 8, Line: "unused"})
		before := slices.Clone(memory)
		for size := range len(memory) {
			impl.RunActs(memory[:size])
			impl.GrantsAt(memory[:size], size/2)
		}
		if !slices.Equal(memory, before) {
			t.Errorf("the actions %v are changed", before)
		}
	}
}

func TestSessionResultsAreNewMemory(t *testing.T) {
	for i, acts := range someSessions() {
		what := fmt.Sprint("session ", i)
		own := slices.Clone(acts)
		first, firstReports, _ := impl.RunActs(own)
		second, secondReports, _ := impl.RunActs(own)
		clear(own)
		want, wantReports, _ := impl.RunActs(acts)
		expected := evalResult{clonedForth(want), clonedReports(wantReports)}
		got := evalResult{first, firstReports}
		if !equalResults(got, expected) {
			t.Errorf("%s shares memory with its actions", what)
		}
		wantResultApart(t, what, got)
		spoilResult(got)
		if !equalResults(evalResult{second, secondReports}, expected) || !equalResults(evalResult{want, wantReports}, expected) {
			t.Errorf("%s shares memory with another one", what)
		}
	}
}

func clonedReports(list []impl.Report) []impl.Report {
	own := slices.Clone(list)
	for i, r := range own {
		own[i].Stack = slices.Clone(r.Stack)
	}
	return own
}

// TestGrantsAreNewMemory spoils one result, and asks anew.
func TestGrantsAreNewMemory(t *testing.T) {
	acts := []impl.Act{grant(0), grant(3), eval("1"), revoke(0)}
	for place := range len(acts) + 1 {
		want, _ := impl.GrantsAt(acts, place)
		expected := slices.Clone(want)
		got, _ := impl.GrantsAt(acts, place)
		spoilFlags(got)
		again, _ := impl.GrantsAt(acts, place)
		if !slices.Equal(want, expected) || !slices.Equal(again, expected) {
			t.Errorf("the grants at %d share memory with others", place)
		}
	}
}

// TestReportsAreUnchanged compares reports with unused capacity.
func TestReportsAreUnchanged(t *testing.T) {
	for _, a := range someReports() {
		for _, b := range someReports() {
			var first, second []int
			a.Stack, first = withRoom(a.Stack)
			b.Stack, second = withRoom(b.Stack)
			before := [][]int{slices.Clone(first), slices.Clone(second)}
			impl.SameReport(a, b)
			if !slices.Equal(first, before[0]) || !slices.Equal(second, before[1]) {
				t.Errorf("SameReport changes %.99v or %.99v", a, b)
			}
		}
	}
}

// TestActionsLeaveTheirForth performs the same action on one Forth twice, with
// what other actions make of its result in between.
func TestActionsLeaveTheirForth(t *testing.T) {
	for i, f := range memoryForths() {
		if !impl.ForthOK(f) {
			continue
		}
		for _, a := range memoryActs() {
			first, _, _ := impl.DoAct(f, a)
			want := clonedForth(first)
			actResults(first)
			second, _, _ := impl.DoAct(f, a)
			if !equalForths(first, want) || !equalForths(second, want) {
				t.Errorf("the results of %v of Forth %d change each other", a, i)
			}
		}
	}
}
