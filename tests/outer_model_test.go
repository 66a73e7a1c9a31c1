package tests

// Chapter 11 read a second time: what a line should do. The words are taken
// from the front of a list, with the ones that they read; tokens are run by the
// model of chapter 9. Every line that a test has interpreted is compared with
// this model and with its own words.

import (
	"fmt"
	"math/big"
	"slices"
	"strings"
	"testing"

	"loop.example/g00787/impl"
)

// lineWork changes the Forth by a line and returns the report.
func lineWork(f *impl.Forth, line string) impl.Report {
	words, closed := wordsOf(runsOf(line))
	throw := 0
	if !closed {
		throw = -22
	}
	for len(words) > 0 && throw == 0 {
		words, throw = turnWork(f, words)
	}
	if throw != 0 {
		throwWork(f)
	}
	report := impl.Report{Throw: throw, Fuel: f.Machine.Fuel, Said: f.Machine.Data.Out, Stack: slices.Clone(f.Machine.Data.Stack), Compiling: f.Compiling}
	f.Machine.Data.Out = ""
	return report
}

func throwWork(f *impl.Forth) {
	f.Machine.Data.Stack, f.Machine.Data.Back = nil, nil
	f.Compiling, f.Name, f.Items = false, "", nil
}

// syntaxName is empty for a word that is not of kind WdSyntax.
func syntaxName(f *impl.Forth, w string) string {
	number := lastOf(f.Machine.Words, w)
	if number < 67 || number > kernelSize {
		return ""
	}
	return kernelNames()[4][number-67]
}

func readsNext(f *impl.Forth, w string) bool {
	if f.Compiling {
		return syntaxName(f, w) == "[']"
	}
	return slices.Contains([]string{":", "VARIABLE", "CONSTANT", "'"}, syntaxName(f, w))
}

// turnWork works the first of the words, and returns the ones that are left.
func turnWork(f *impl.Forth, words []string) ([]string, int) {
	w, rest := words[0], words[1:]
	if !readsNext(f, w) {
		return rest, plainWork(f, w)
	}
	if len(rest) == 0 || !isWordName(rest[0]) {
		return rest, -13
	}
	if word := syntaxName(f, w); word != "'" && word != "[']" {
		return rest[1:], newWordWork(f, word, rest[0])
	}
	return rest[1:], tokenWork(f, rest[0])
}

func isWordName(name string) bool {
	for i := range len(name) {
		if name[i] <= ' ' || name[i] > '~' {
			return false
		}
	}
	return len(name) > 0 && len(name) < 13
}

func tokenWork(f *impl.Forth, name string) int {
	number := lastOf(f.Machine.Words, name)
	if number == 0 {
		return -13
	}
	if slices.Contains(notTokens(f.Machine.Words), number) {
		return -24
	}
	return literalWork(f, number)
}

func literalWork(f *impl.Forth, n int) int {
	if f.Compiling {
		return itemWork(f, impl.Item{Kind: 2, Value: n})
	}
	return pushWork(&f.Machine, n)
}

func itemWork(f *impl.Forth, x impl.Item) int {
	if len(f.Items) == maxItems {
		return -8
	}
	items := append(slices.Clone(f.Items), x)
	if fittingItems(items) < len(items) {
		return -22
	}
	f.Items = items
	return 0
}

func newWordWork(f *impl.Forth, word, name string) int {
	m := &f.Machine
	x, top := impl.Word{Name: name}, len(m.Data.Stack)-1
	switch {
	case len(m.Words) == wordNumbers:
		return -8
	case word == ":":
		f.Compiling, f.Name = true, name
		return 0
	case word == "VARIABLE" && m.Data.Here == maxCells:
		return -8
	case word == "VARIABLE":
		x.Kind, x.Value = 7, dataBase+4*m.Data.Here
		m.Data.Cells[m.Data.Here] = 0
		m.Data.Here++
	case top < 0:
		return -4
	default:
		x.Kind, x.Value = 8, m.Data.Stack[top]
		m.Data.Stack = m.Data.Stack[:top]
	}
	m.Words = append(m.Words, x)
	return 0
}

// plainWork works a word that reads no other one.
func plainWork(f *impl.Forth, w string) int {
	number, syntax := lastOf(f.Machine.Words, w), syntaxName(f, w)
	kind := slices.Index(itemNames(), syntax) + 1
	switch {
	case number == 0:
		n, is := numberIn(w, f.Machine.Data.Base)
		if !is {
			return -13
		}
		return literalWork(f, n)
	case f.Compiling && syntax == ";":
		return closeWork(f)
	case f.Compiling && kind > 0:
		return itemWork(f, impl.Item{Kind: kind})
	case syntax != "":
		return -14
	case f.Compiling:
		return itemWork(f, impl.Item{Kind: 1, Value: number})
	}
	return runWork(&f.Machine, number)
}

func numberIn(w string, base int) (int, bool) {
	digits := strings.TrimPrefix(w, "-")
	if strings.Trim(digits, allDigits[:base]+strings.ToLower(allDigits[:base])) != "" || len(digits) < 1 || len(digits) > 32 {
		return 0, false
	}
	n, is := new(big.Int).SetString(w, base)
	if !is {
		return 0, false
	}
	return wrapBig(n), true
}

func closeWork(f *impl.Forth) int {
	if open, _ := leftOpen(f.Items); len(open) > 0 {
		return -22
	}
	m := clonedMachine(f.Machine)
	x := defined(&m, f.Items)
	if len(m.Words) > wordNumbers || len(m.Code) > maxCode {
		return -8
	}
	m.Words[len(m.Words)-1].Name = f.Name
	f.Machine, f.Defs = m, append(clonedDefs(f.Defs), x)
	f.Compiling, f.Name, f.Items = false, "", nil
	return 0
}

func runWork(m *impl.Machine, token int) int {
	throw := stepWork(m, token)
	for len(m.Calls) > 0 {
		throw = stepWork(m, numberAt(m))
	}
	return throw
}

func equalReports(a, b impl.Report) bool {
	return a.Throw == b.Throw && a.Fuel == b.Fuel && a.Said == b.Said && slices.Equal(a.Stack, b.Stack) && a.Compiling == b.Compiling
}

func isZeroReport(r impl.Report) bool {
	return equalReports(r, impl.Report{})
}

// forthText is empty for a zero Forth.
func forthText(f impl.Forth) string {
	if isZeroForth(f) {
		return ""
	}
	return fmt.Sprintf("%s %v %v %q %v", machineText(f.Machine), f.Defs, f.Compiling, f.Name, f.Items)
}

// evalLine interprets a line, checks what holds for every line, and returns
// what EvalLine returns.
func evalLine(t *testing.T, f impl.Forth, line string) (impl.Forth, impl.Report) {
	t.Helper()
	before, want := clonedForth(f), clonedForth(f)
	got, report, code := impl.EvalLine(f, line)
	wantReport := lineWork(&want, line)
	if code != impl.OK || !equalReports(report, wantReport) || !equalForths(got, want) {
		t.Errorf("EvalLine(%s, %q) = %s, %v, %d, not %s, %v", forthText(before), line, forthText(got), report, code, forthText(want), wantReport)
	}
	if !equalForths(f, before) {
		t.Errorf("the line %q changes its argument", line)
	}
	if !impl.ForthOK(got) || got.Machine.Data.Out != "" {
		t.Errorf("the line %q leaves %s", line, forthText(got))
	}
	if report.Throw != 0 && (len(got.Machine.Data.Stack) > 0 || len(got.Machine.Data.Back) > 0 || got.Compiling || report.Compiling || len(report.Stack) > 0) {
		t.Errorf("the line %q throws %d and leaves %s", line, report.Throw, forthText(got))
	}
	wantOlderWords(t, line, before, got)
	evalWords(t, before, line, got, report)
	return got, report
}

// wantOlderWords checks that no word is changed, nor its code.
func wantOlderWords(t *testing.T, line string, before, got impl.Forth) {
	t.Helper()
	old, now := before.Machine, got.Machine
	if len(now.Words) < len(old.Words) || !slices.Equal(now.Words[:len(old.Words)], old.Words) ||
		len(now.Code) < len(old.Code) || !slices.Equal(now.Code[:len(old.Code)], old.Code) ||
		len(got.Defs) < len(before.Defs) || !equalDefs(got.Defs[:len(before.Defs)], before.Defs) {
		t.Errorf("the line %q changes a word: %s, then %s", line, forthText(before), forthText(got))
	}
}

// evalWords interprets the words of the line one by one, up to one that reads
// the next word or throws.
func evalWords(t *testing.T, f impl.Forth, line string, whole impl.Forth, report impl.Report) {
	t.Helper()
	words, code := impl.LineWords(line)
	if code != impl.OK {
		return
	}
	for _, w := range words {
		before := clonedForth(f)
		next, throw, code := impl.EvalWord(f, w)
		if !equalForths(f, before) {
			t.Errorf("the word %q changes its argument", w)
		}
		if readsNext(&before, w) {
			if code != impl.ErrState || throw != 0 || !isZeroForth(next) {
				t.Errorf("EvalWord(%s, %q) = %s, %d, %d", forthText(f), w, forthText(next), throw, code)
			}
			return
		}
		f = next
		if code != impl.OK || !impl.ForthOK(f) {
			t.Errorf("EvalWord(%s, %q) = %s, %d, %d", forthText(before), w, forthText(next), throw, code)
			return
		}
		if throw != 0 {
			if throw != report.Throw {
				t.Errorf("the line %q throws %d, but its word %q throws %d", line, report.Throw, w, throw)
			}
			break
		}
	}
	said := f.Machine.Data.Out
	f.Machine.Data.Out = ""
	if said != report.Said || !equalForths(f, whole) {
		t.Errorf("the line %q leaves %s and says %q, but its words leave %s and say %q", line, forthText(whole), report.Said, forthText(f), said)
	}
}
