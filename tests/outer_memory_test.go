package tests

// Promise 1 for the outer interpreter: no function changes its argument, not
// even the unused capacity of its slices, and no slice of a result shares
// memory with an argument or with another slice of the result.

import (
	"fmt"
	"slices"
	"testing"

	"loop.example/g00787/impl"
)

// evalResult is what the functions return, with one report for each line.
type evalResult struct {
	forth   impl.Forth
	reports []impl.Report
}

func equalResults(a, b evalResult) bool {
	return equalForths(a.forth, b.forth) && slices.EqualFunc(a.reports, b.reports, equalReports)
}

func forthWithRoom(f impl.Forth) impl.Forth {
	f.Machine, f.Defs = machineWithRoom(f.Machine), defsWithRoom(f.Defs)
	f.Items, _ = itemsWithRoom(f.Items)
	return f
}

// forthMemory copies all the memory of a Forth, also unused capacity.
func forthMemory(f impl.Forth) impl.Forth {
	f.Machine, f.Defs = clonedMachine(machineMemory(f.Machine)), defsMemory(f.Defs)
	f.Items = slices.Clone(f.Items[:cap(f.Items)])
	return f
}

func spoilForth(f impl.Forth) {
	spoilMachine(f.Machine)
	for _, x := range f.Defs[:cap(f.Defs)] {
		spoilItems(x.Items)
	}
	clear(f.Defs[:cap(f.Defs)])
	spoilItems(f.Items)
}

func spoilResult(x evalResult) {
	spoilForth(x.forth)
	for _, r := range x.reports {
		spoil(r.Stack)
	}
	clear(x.reports[:cap(x.reports)])
}

// memoryForths change each of their parts in one line or another.
func memoryForths() []impl.Forth {
	list := []impl.Forth{impl.NewForth(), openForth(), fullForth(), {}}
	for _, stacks := range []string{"", "5|6 7", "1 2 3", ofCells(31) + "|" + ofCells(31)} {
		f := closedForth(stacks, someSources()...)
		list = append(list, f, compiling(f, itemsOf("5 IF 6")), compiling(f, fiveItems(maxItems)), compiling(f, itemsOf("5")))
	}
	return list
}

func memoryWords() []string {
	return []string{"", "1", "dup", "drop", ">r", "r>", "hwrite", "htime", ",", "allot", "word92", "7", ";", "then", "recurse", "if", "zap", ":", "[']", "throw"}
}

func memoryLines() []string {
	return []string{
		"", "1", "dup", "drop", "dup >r", "variable v 3 v !", "constant c c", ": a dup * ; 3 a", "then ; name", ": a", "1 2 3", "dup 3 hwrite htime drop", "' drop catch", "( a",
		"zap", "1 zap", ": a 1 if", "then 7 ;", "65 emit .", "drop : x dup ; 5 x x variable w w", "word92 word87",
	}
}

// evalResults calls every function that returns a Forth.
func evalResults(f impl.Forth) map[string]evalResult {
	results := map[string]evalResult{}
	for _, w := range memoryWords() {
		got, _, _ := impl.EvalWord(f, w)
		results["EvalWord "+w] = evalResult{forth: got}
	}
	for i, line := range memoryLines() {
		got, report, _ := impl.EvalLine(f, line)
		results["EvalLine "+line] = evalResult{got, []impl.Report{report}}
		got, reports, _ := impl.EvalLines(f, memoryLines()[:i])
		results[fmt.Sprint("EvalLines ", i)] = evalResult{got, reports}
	}
	long, _, _ := impl.EvalLine(f, string(make([]byte, maxLine+1)))
	many, reports, _ := impl.EvalLines(f, make([]string, maxItems+1))
	results["EvalLine with a long line"], results["EvalLines with many lines"] = evalResult{forth: long}, evalResult{many, reports}
	return results
}

func TestForthArgumentsAreUnchanged(t *testing.T) {
	for i, f := range append(memoryForths(), invalidForths()...) {
		own := forthWithRoom(f)
		before := forthMemory(own)
		evalResults(own)
		impl.ForthOK(own)
		impl.SameForth(own, own)
		impl.SameForth(own, openForth())
		impl.SameForth(openForth(), own)
		if !equalForths(forthMemory(own), before) {
			t.Errorf("Forth %d is changed", i)
		}
	}
}

func TestLinesOfEvalLinesAreUnchanged(t *testing.T) {
	for _, f := range []impl.Forth{newForth("5"), openForth(), {}} {
		for size := range len(memoryLines()) {
			memory := append(memoryLines(), "unused", "unused")
			before := slices.Clone(memory)
			impl.EvalLines(f, memory[:size])
			if !slices.Equal(memory, before) {
				t.Errorf("EvalLines of %d lines changes them", size)
			}
		}
	}
}

func TestForthResultsAreNewMemory(t *testing.T) {
	for i, f := range memoryForths() {
		expected := evalResults(f)
		own := forthWithRoom(f)
		results := evalResults(own)
		spoilForth(own)
		for what, got := range results {
			if !equalResults(got, expected[what]) {
				t.Errorf("the result of %s of Forth %d shares memory with an argument", what, i)
			}
		}
		for what, got := range results {
			if !equalResults(got, expected[what]) {
				t.Errorf("the result of %s of Forth %d shares memory with another result", what, i)
			}
			spoilResult(got)
		}
	}
}

// resultCells has all lists of cells of a result, and resultItems all lists of
// items.
func resultCells(x evalResult) [][]int {
	m := x.forth.Machine
	lists := [][]int{m.Code, m.Data.Stack, m.Data.Back, m.Data.Cells, m.Host.Store, m.Host.Answers}
	for _, r := range x.reports {
		lists = append(lists, r.Stack)
	}
	return lists
}

func resultItems(x evalResult) [][]impl.Item {
	lists := [][]impl.Item{x.forth.Items}
	for _, def := range x.forth.Defs {
		lists = append(lists, def.Items)
	}
	return lists
}

// wantResultApart spoils the lists of a result one after the other.
func wantResultApart(t *testing.T, what string, x evalResult) {
	t.Helper()
	for i, list := range resultCells(x) {
		before := clonedLists(resultCells(x))
		spoil(list)
		for k, other := range resultCells(x) {
			if k != i && !slices.Equal(other, before[k]) {
				t.Errorf("the lists %d and %d of cells of the result of %s share memory", i, k, what)
			}
		}
	}
	for i, list := range resultItems(x) {
		var before [][]impl.Item
		for _, other := range resultItems(x) {
			before = append(before, slices.Clone(other))
		}
		spoilItems(list)
		for k, other := range resultItems(x) {
			if k != i && !slices.Equal(other, before[k]) {
				t.Errorf("the lists %d and %d of items of the result of %s share memory", i, k, what)
			}
		}
	}
}

// TestForthSlicesAreApart has results of ordinary arguments, and of arguments
// whose slices are one piece of memory.
func TestForthSlicesAreApart(t *testing.T) {
	for i, f := range memoryForths() {
		for what, got := range evalResults(f) {
			wantResultApart(t, fmt.Sprint(what, " of Forth ", i), got)
		}
	}
	items := sourceItems("DUP DUP")
	f := closedForth("", "DUP", "DUP DUP", "DUP")
	f.Defs[0].Items, f.Defs[1].Items, f.Defs[2].Items = items[:1], items, items[1:]
	f.Compiling, f.Name, f.Items = true, "a", items[:1]
	memory := slices.Repeat([]int{1}, maxCells)
	f.Machine.Data.Cells, f.Machine.Host.Store = memory, memory[:storeSize]
	f.Machine.Data.Stack, f.Machine.Data.Back, f.Machine.Host.Answers = memory[:9], memory[:3], memory[:5]
	expected := evalResults(clonedForth(f))
	for what, got := range evalResults(f) {
		if !equalResults(got, expected[what]) {
			t.Errorf("%s depends on where its Forth is: %s", what, forthText(got.forth))
		}
		wantResultApart(t, what, got)
	}
	if !slices.Equal(memory, slices.Repeat([]int{1}, maxCells)) || !slices.Equal(items, sourceItems("DUP DUP")) {
		t.Error("the Forth is changed")
	}
}

func TestNewForthIsNewMemory(t *testing.T) {
	spoilForth(impl.NewForth())
	if got := impl.NewForth(); !impl.ForthOK(got) || !equalForths(got, impl.Forth{Machine: impl.NewMachine()}) {
		t.Errorf("NewForth() = %s", forthText(got))
	}
}

// TestLinesLeaveTheirForth interprets the same line of one Forth twice, with
// what other lines make of its result in between.
func TestLinesLeaveTheirForth(t *testing.T) {
	for i, f := range memoryForths() {
		if !impl.ForthOK(f) {
			continue
		}
		for _, line := range memoryLines() {
			first, _, _ := impl.EvalLine(f, line)
			want := clonedForth(first)
			impl.EvalLines(first, memoryLines())
			second, _, _ := impl.EvalLine(f, line)
			if !equalForths(first, want) || !equalForths(second, want) {
				t.Errorf("the results of %q of Forth %d change each other", line, i)
			}
		}
	}
}
