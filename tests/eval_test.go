package tests

// Promise 13, the three ways to interpret: a word, a line and several lines,
// their limits and the order of their codes.

import (
	"fmt"
	"slices"
	"strings"
	"testing"

	"loop.example/g00787/impl"
)

func wantWord(t *testing.T, f impl.Forth, w string, want impl.Forth, wantThrow int) {
	t.Helper()
	got, throw, code := impl.EvalWord(f, w)
	if code != impl.OK || throw != wantThrow || !equalForths(got, want) {
		t.Errorf("EvalWord(%s, %.40q) = %s, %d, %d, not %s, %d", forthText(f), w, forthText(got), throw, code, forthText(want), wantThrow)
	}
}

func wantNoWord(t *testing.T, what string, f impl.Forth, w string, wantCode int) {
	t.Helper()
	if got, throw, code := impl.EvalWord(f, w); code != wantCode || throw != 0 || !isZeroForth(got) {
		t.Errorf("%s: EvalWord of %.40q = %s, %d, %d, not the code %d", what, w, forthText(got), throw, code, wantCode)
	}
}

func wantNoEval(t *testing.T, what string, f impl.Forth, line string, wantCode int) {
	t.Helper()
	if got, report, code := impl.EvalLine(f, line); code != wantCode || !isZeroReport(report) || !isZeroForth(got) {
		t.Errorf("%s: EvalLine of %.40q = %s, %v, %d, not the code %d", what, line, forthText(got), report, code, wantCode)
	}
}

func wantNoEvals(t *testing.T, what string, f impl.Forth, lines []string, wantCode int) {
	t.Helper()
	if got, reports, code := impl.EvalLines(f, lines); code != wantCode || len(reports) > 0 || !isZeroForth(got) {
		t.Errorf("%s: EvalLines of %d lines = %s, %v, %d, not the code %d", what, len(lines), forthText(got), reports, code, wantCode)
	}
}

// thrown is the Forth behind a throw that changes nothing else.
func thrown(f impl.Forth) impl.Forth {
	f = clonedForth(f)
	throwWork(&f)
	return f
}

func TestEvalWord(t *testing.T) {
	f := closedForth("5|6", "DUP *")
	seven := clonedForth(f)
	seven.Machine.Data.Stack = append(seven.Machine.Data.Stack, 7)
	wantWord(t, f, "7", seven, 0)
	wantWord(t, f, "-0007", withTop(f, -7), 0)
	dup := withTop(f, 5)
	dup.Machine.Fuel--
	wantWord(t, f, "dup", dup, 0)
	wantWord(t, f, "DUP", dup, 0)
	square := clonedForth(f)
	square.Machine.Data.Stack, square.Machine.Fuel = []int{25}, someFuel-4
	wantWord(t, f, "WORD86", square, 0)
	said := clonedForth(f)
	said.Machine.Data.Out, said.Machine.Fuel = "out ", someFuel-1
	wantWord(t, f, "space", said, 0)
	wantWord(t, f, "zap", thrown(f), -13)
	wantWord(t, f, "then", thrown(f), -14)
	open := compiling(f, sourceItems("IF"))
	wantWord(t, open, "dup", compiling(f, sourceItems("IF DUP")), 0)
	wantWord(t, open, "7", compiling(f, sourceItems("IF 7")), 0)
	wantWord(t, open, "then", compiling(f, sourceItems("IF THEN")), 0)
	wantWord(t, open, "until", thrown(f), -22)
	wantWord(t, open, ";", thrown(f), -22)
	wantWord(t, open, ":", thrown(f), -14)
	closed := clonedForth(f)
	closed.Defs = append(closed.Defs, defined(&closed.Machine, sourceItems("5")))
	closed.Machine.Words[86].Name = "name"
	wantWord(t, compiling(f, sourceItems("5")), ";", closed, 0)
}

func withTop(f impl.Forth, n int) impl.Forth {
	f = clonedForth(f)
	f.Machine.Data.Stack = append(f.Machine.Data.Stack, n)
	return f
}

// TestEvalWordOfNoWords has texts that are no words of a line.
func TestEvalWordOfNoWords(t *testing.T) {
	for _, f := range []impl.Forth{newForth("5|6"), closedForth("5|6", someSources()...), openForth(), fullForth()} {
		for _, w := range []string{"", " ", "  ", "1 2", " 1", "1 ", "dup ", " dup", "dup dup", "dup drop", "(", ")", "( a )", `\`, `\ a`, "\t", "dup\n", "1\x00", "é", ": a", "' dup", "[ ']", "variable v", "(lit)", strings.Repeat("1", 33), strings.Repeat("dup ", 100), strings.Repeat("d", maxLine+1), strings.Repeat("1", impl.MaxText)} {
			wantWord(t, f, w, thrown(f), -13)
		}
		wantNoWord(t, "a long word", f, strings.Repeat("1", impl.MaxText+1), impl.ErrLong)
	}
}

// TestEvalWordOfComments has words that a line cannot have.
func TestEvalWordOfComments(t *testing.T) {
	f := newForth("5|6")
	f.Machine.Words = append(f.Machine.Words, impl.Word{Name: "(", Kind: impl.WdConst, Value: 3}, impl.Word{Name: `\`, Kind: impl.WdConst, Value: 4})
	for w, n := range map[string]int{"(": 3, `\`: 4} {
		want := withTop(f, n)
		want.Machine.Fuel--
		wantWord(t, f, w, want, 0)
	}
	wantLine(t, f, lineCase{`( ) \`, 0, "5|6", "", 0})
}

// TestWordsThatReadTheNext are refused, whatever else they would find.
func TestWordsThatReadTheNext(t *testing.T) {
	for _, f := range []impl.Forth{newForth(""), newForth("5|6"), newForth(ofCells(32)), fullForth(), closedForth("5|6", someSources()...)} {
		for _, w := range readers() {
			wantNoWord(t, "interpretation", f, w, impl.ErrState)
			wantNoWord(t, "interpretation", f, strings.ToLower(w), impl.ErrState)
			wantWord(t, compiling(f, nil), w, thrown(f), -14)
		}
		wantWord(t, f, "[']", thrown(f), -14)
		for _, items := range [][]impl.Item{nil, itemsOf("IF"), fiveItems(maxItems)} {
			wantNoWord(t, "compilation", compiling(f, items), "[']", impl.ErrState)
		}
	}
}

// TestReadersThatAreDefinedAnew read no other word any more.
func TestReadersThatAreDefinedAnew(t *testing.T) {
	for _, w := range append(readers(), "[']") {
		f := newForth("5|6")
		f.Machine.Words = append(f.Machine.Words, impl.Word{Name: strings.ToLower(w), Kind: impl.WdConst, Value: 7})
		want := withTop(f, 7)
		want.Machine.Fuel--
		wantWord(t, f, w, want, 0)
		wantWord(t, compiling(f, nil), w, compiling(f, itemsOf("w84")), 0)
	}
}

// invalidForths has some invalid ones of every sort.
func invalidForths() []impl.Forth {
	var list []impl.Forth
	for i, f := range badForths() {
		if i < 5 || i%9 == 0 {
			list = append(list, f)
		}
	}
	return list
}

func TestEvalOfInvalidForths(t *testing.T) {
	long := strings.Repeat(" ", impl.MaxText+1)
	for i, f := range badForths() {
		what := fmt.Sprint("invalid Forth ", i)
		wantNoWord(t, what, f, "1", impl.ErrBad)
		wantNoEval(t, what, f, "1", impl.ErrBad)
		wantNoEvals(t, what, f, []string{"1"}, impl.ErrBad)
	}
	for i, f := range invalidForths() {
		what := fmt.Sprint("invalid Forth ", i)
		for _, w := range []string{"", "dup", ":", "variable", "[']", "a b", long[1:]} {
			wantNoWord(t, what, f, w, impl.ErrBad)
		}
		wantNoWord(t, what, f, long, impl.ErrLong)
		for _, line := range []string{"", "dup", ": a", "( a", long[:maxLine], long[:maxLine+1], long[1:]} {
			wantNoEval(t, what, f, line, impl.ErrBad)
		}
		wantNoEval(t, what, f, long, impl.ErrLong)
		for _, lines := range [][]string{nil, {""}, {"( a"}, {long}, {long[:maxLine+1]}, make([]string, maxItems+1), make([]string, impl.MaxList)} {
			wantNoEvals(t, what, f, lines, impl.ErrBad)
		}
		wantNoEvals(t, what, f, make([]string, impl.MaxList+1), impl.ErrLong)
	}
}

func TestEvalLineUpToMaxLine(t *testing.T) {
	for _, f := range []impl.Forth{newForth("5|6"), openForth(), fullForth()} {
		for _, text := range []string{" ", "1", "( ", "dup ", `\ `, "é"} {
			for _, size := range []int{maxLine + 1, maxLine + 2, 2 * maxLine, impl.MaxText} {
				wantNoEval(t, "a long line", f, strings.Repeat(text, size)[:size], impl.ErrSize)
			}
			wantNoEval(t, "a longer line", f, strings.Repeat(text, impl.MaxText+1)[:impl.MaxText+1], impl.ErrLong)
		}
		wantNoEval(t, "a line with spaces behind", f, "1"+strings.Repeat(" ", maxLine), impl.ErrSize)
		wantNoEval(t, "a line with a comment behind", f, `1 \`+strings.Repeat(" ", maxLine), impl.ErrSize)
	}
	wantLine(t, newForth("5|6"), lineCase{strings.Repeat(" ", maxLine), 0, "5|6", "", 0})
	wantLine(t, newForth("5|6"), lineCase{strings.Repeat(" ", maxLine-1) + "7", 0, "5 7|6", "", 0})
	wantLine(t, newForth("5|6"), lineCase{"7" + strings.Repeat(" ", maxLine-1), 0, "5 7|6", "", 0})
	wantLine(t, newForth("5|6"), lineCase{strings.Repeat("1 drop ", 57) + "2", 0, "5 2|6", "", 57})
	wantLine(t, newForth("5|6"), lineCase{strings.Repeat("1", maxLine), -13, "", "", 0})
	wantLine(t, newForth("5|6"), lineCase{strings.Repeat("1 ", maxLine/2), -3, "", "", 0})
	wantLine(t, newForth("5|6"), lineCase{strings.Repeat("+ ", 2) + strings.Repeat(" ", maxLine-4), -4, "", "", 1})
}

// TestEvalLineWithAnOpenComment interprets no word.
func TestEvalLineWithAnOpenComment(t *testing.T) {
	for _, f := range []impl.Forth{newForth("5|6"), newForth(""), openForth(), fullForth(), closedForth("5|6", someSources()...)} {
		f.Machine.Data.Out = ""
		for _, line := range []string{"(", "( a", "1 . (", "variable v 1 constant c (", ": a 1 ; (", "zap (", "dup ( a ) ( b", "( ) 1 (", "hex ( \\"} {
			wantThrown(t, f, line, -22)
		}
	}
	f := newForth("5|6")
	f.Machine.Data.Out = "said before"
	wantLine(t, f, lineCase{"1 . (", -22, "", "said before", 0})
	wantLine(t, f, lineCase{`1 . \ (`, 0, "5|6", "said before1 ", 1})
}

func TestEmptyLinesAndComments(t *testing.T) {
	for _, f := range []impl.Forth{newForth("5|6"), openForth(), fullForth(), impl.NewForth()} {
		f.Machine.Data.Out = ""
		for _, line := range []string{"", " ", "      ", "( )", "( dup )", "( a) ( b)", `\`, `\ dup zap (`, `  ( 1) \ 2`} {
			got, report := evalLine(t, f, line)
			want := impl.Report{Fuel: f.Machine.Fuel, Stack: f.Machine.Data.Stack, Compiling: f.Compiling}
			if !equalForths(got, f) || !equalReports(report, want) {
				t.Errorf("the line %q leaves %s and the report %v", line, forthText(got), report)
			}
		}
	}
	wantLine(t, newForth(""), lineCase{"1 ( 2 ) 3 ( 4) 5 \\ 6", 0, "1 3 5", "", 0})
	wantLine(t, newForth(""), lineCase{": a 1 ( ; ) 2 ( :) ; a \\ a", 0, "1 2", "", 4})
}

// TestOutputIsReportedOnce has output from before the line, and lines that say
// nothing.
func TestOutputIsReportedOnce(t *testing.T) {
	f := newForth("5")
	for _, v := range []struct{ line, said string }{{"1 .", "1 "}, {"", ""}, {"cr 2 . 3 .", "\n2 3 "}, {"zap", ""}, {"4 . zap", "4 "}, {"space space", "  "}} {
		got, report := evalLine(t, f, v.line)
		if report.Said != v.said || got.Machine.Data.Out != "" {
			t.Errorf("the line %q says %q and leaves %q", v.line, report.Said, got.Machine.Data.Out)
		}
		f = got
	}
	said, throw, code := impl.EvalWord(f, "cr")
	if throw != 0 || code != impl.OK || said.Machine.Data.Out != "\n" {
		t.Fatalf("EvalWord of cr leaves %q, %d, %d", said.Machine.Data.Out, throw, code)
	}
	again, _, _ := impl.EvalWord(said, "space")
	for line, want := range map[string]string{"": "\n ", "7 .": "\n 7 ", "zap": "\n ", "(": "\n "} {
		if _, report := evalLine(t, again, line); report.Said != want {
			t.Errorf("the line %q says %q, not %q", line, report.Said, want)
		}
	}
	full := newForth("")
	full.Machine.Data.Out = strings.Repeat("o", maxOut)
	wantLine(t, full, lineCase{"space", -17, "", full.Machine.Data.Out, 1})
	_, reports, _ := impl.EvalLines(full, []string{"1", "space", "cr"})
	if len(reports) != 3 || reports[0].Said != full.Machine.Data.Out || reports[1].Said != " " || reports[2].Said != "\n" {
		t.Errorf("the output is reported as %v", reports)
	}
}

func TestReportOfALine(t *testing.T) {
	for _, v := range []struct {
		line string
		want impl.Report
	}{
		{"1 . 2 3", impl.Report{Fuel: 99, Said: "1 ", Stack: []int{5, 2, 3}}},
		{": a 1 7", impl.Report{Fuel: 100, Stack: []int{5}, Compiling: true}},
		{"6 : a", impl.Report{Fuel: 100, Stack: []int{5, 6}, Compiling: true}},
		{": a ; a", impl.Report{Fuel: 98, Stack: []int{5}}},
		{"drop drop", impl.Report{Throw: -4, Fuel: 98}},
		{": a zap", impl.Report{Throw: -13, Fuel: 100}},
		{"1 . 77 throw", impl.Report{Throw: 77, Fuel: 98, Said: "1 "}},
		{"drop", impl.Report{Fuel: 99}},
	} {
		f := newForth("5|6")
		f.Machine.Fuel = 100
		if _, report := evalLine(t, f, v.line); !equalReports(report, v.want) {
			t.Errorf("the line %q has the report %v, not %v", v.line, report, v.want)
		}
	}
}

// evalLines compares several lines with each of them alone.
func evalLines(t *testing.T, f impl.Forth, lines []string) (impl.Forth, []impl.Report) {
	t.Helper()
	before := clonedForth(f)
	own := slices.Clone(lines)
	got, reports, code := impl.EvalLines(f, own)
	if !equalForths(f, before) || !slices.Equal(own, lines) {
		t.Errorf("EvalLines of %q changes an argument", lines)
	}
	want := f
	var wantReports []impl.Report
	for _, line := range lines {
		next, report := evalLine(t, want, line)
		want, wantReports = next, append(wantReports, report)
	}
	if code != impl.OK || !equalForths(got, want) || !slices.EqualFunc(reports, wantReports, equalReports) {
		t.Errorf("EvalLines of %q = %s, %v, %d, not %s, %v", lines, forthText(got), reports, code, forthText(want), wantReports)
	}
	return got, reports
}

func throwsOf(reports []impl.Report) []int {
	var list []int
	for _, r := range reports {
		list = append(list, r.Throw)
	}
	return list
}

func TestEvalLines(t *testing.T) {
	for _, v := range []struct {
		lines  []string
		throws []int
		after  string
	}{
		{[]string{"1", "2 3"}, []int{0, 0}, "5 1 2 3"},
		{[]string{"1", "zap", "2"}, []int{0, -13, 0}, "2"},
		{[]string{"zap", "(", "drop", "if", "1"}, []int{-13, -22, -4, -14, 0}, "1"},
		{[]string{": a", "1", "zap", "a", ": a 2 ;", "a"}, []int{0, 0, -13, -13, 0, 0}, "2"},
		{[]string{": sq", "dup", "*", ";", "sq", "sq"}, []int{0, 0, 0, 0, 0, 0}, "625"},
		{[]string{"variable v", "v !", "v @ .", "v @"}, []int{0, 0, 0, 0}, "5"},
		{[]string{"' ", "dup"}, []int{-13, -4}, ""},
		{[]string{": a begin 0 until ;", "a", "1", "dup", "2"}, []int{0, -101, 0, -101, 0}, "2"},
		{[]string{"", "", "( )"}, []int{0, 0, 0}, "5"},
		{[]string{"hex", "ff", "decimal", "ff"}, []int{0, 0, 0, -13}, ""},
	} {
		got, reports := evalLines(t, newForth("5"), v.lines)
		stack, _ := stacksOf(v.after)
		if !slices.Equal(throwsOf(reports), v.throws) || !slices.Equal(got.Machine.Data.Stack, stack) {
			t.Errorf("the lines %q throw %v and leave %v", v.lines, throwsOf(reports), got.Machine.Data.Stack)
		}
	}
}

// TestEvalLinesWithoutLines leaves the output where it is.
func TestEvalLinesWithoutLines(t *testing.T) {
	for i, f := range validForths() {
		for _, lines := range [][]string{nil, {}} {
			if got, reports, code := impl.EvalLines(f, lines); code != impl.OK || len(reports) > 0 || !equalForths(got, f) {
				t.Errorf("no lines of Forth %d = %s, %v, %d", i, forthText(got), reports, code)
			}
		}
	}
}

func TestEvalLinesUpToMaxItems(t *testing.T) {
	for _, line := range []string{"", "1 drop", "1", "zap", ": a 1 ;", "variable v"} {
		for _, size := range []int{1, 2, maxItems - 1, maxItems} {
			if _, reports := evalLines(t, newForth(""), slices.Repeat([]string{line}, size)); len(reports) != size {
				t.Errorf("%d lines have %d reports", size, len(reports))
			}
		}
		for _, size := range []int{maxItems + 1, 2 * maxItems, impl.MaxList} {
			wantNoEvals(t, "many lines", newForth("5"), slices.Repeat([]string{line}, size), impl.ErrMany)
		}
		wantNoEvals(t, "too many lines", newForth("5"), slices.Repeat([]string{line}, impl.MaxList+1), impl.ErrLong)
	}
}

func TestEvalLinesWithALongLine(t *testing.T) {
	for _, size := range []int{maxLine + 1, 2 * maxLine, impl.MaxText, impl.MaxText + 1, 2 * impl.MaxText} {
		long := strings.Repeat(" ", size)
		for _, lines := range [][]string{{long}, {"1", long}, {long, "1"}, {"zap", "1 .", long, "2"}, append(make([]string, maxItems-1), long), slices.Repeat([]string{long}, maxItems)} {
			wantNoEvals(t, "a long line", newForth("5"), lines, impl.ErrSize)
		}
		for _, lines := range [][]string{append(make([]string, maxItems), long), append([]string{long}, make([]string, maxItems)...), slices.Repeat([]string{long}, impl.MaxList)} {
			wantNoEvals(t, "a long line of many", newForth("5"), lines, impl.ErrMany)
		}
		wantNoEvals(t, "a long line of too many", newForth("5"), append(make([]string, impl.MaxList), long), impl.ErrLong)
	}
	evalLines(t, newForth("5"), slices.Repeat([]string{strings.Repeat("1 drop ", 57) + "2"}, maxItems))
}
