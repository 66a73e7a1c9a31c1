package tests

// Promises 13 and 14 in compilation state: what each word appends to the open
// definition, and what becomes of it in the end.

import (
	"fmt"
	"slices"
	"strings"
	"testing"

	"loop.example/g00787/impl"
)

// wantCompiling checks the open definition behind a line.
func wantCompiling(t *testing.T, f impl.Forth, line, name string, items []impl.Item) impl.Forth {
	t.Helper()
	got, report := evalLine(t, f, line)
	if report.Throw != 0 || !report.Compiling || !got.Compiling || got.Name != name || !slices.Equal(got.Items, items) {
		t.Errorf("the line %q leaves the definition %q with %v and throws %d, not %q with %v", line, got.Name, got.Items, report.Throw, name, items)
	}
	if report.Fuel != f.Machine.Fuel {
		t.Errorf("the line %q uses fuel", line)
	}
	return got
}

// wantDefined checks the last word behind a line, its definition and its code.
func wantDefined(t *testing.T, f impl.Forth, line, name string, items []impl.Item) impl.Forth {
	t.Helper()
	got, report := evalLine(t, f, line)
	if report.Throw != 0 || report.Compiling || len(got.Defs) == 0 {
		t.Errorf("the line %q leaves %s and throws %d", line, forthText(got), report.Throw)
		return got
	}
	number, at := len(got.Machine.Words), len(f.Machine.Code)
	code := append(blockCodeAt(items, at, number), 53)
	last := got.Defs[len(got.Defs)-1]
	if got.Machine.Words[number-1] != (impl.Word{Name: name, Kind: impl.WdColon, Value: at}) || last.Word != number || !slices.Equal(last.Items, items) || !slices.Equal(got.Machine.Code[at:], code) {
		t.Errorf("the line %q defines %v with %v and the code %v, not %v and %v", line, got.Machine.Words[number-1], last, got.Machine.Code[at:], items, code)
	}
	return got
}

func blockCodeAt(items []impl.Item, at, self int) []int {
	code, _ := blockCode(items, at, self)
	return code
}

func wantThrown(t *testing.T, f impl.Forth, line string, throw int) {
	t.Helper()
	got, report := evalLine(t, f, line)
	want := clonedForth(f)
	throwWork(&want)
	if report.Throw != throw || !equalForths(got, want) {
		t.Errorf("the line %q leaves %s and throws %d, not %d", line, forthText(got), report.Throw, throw)
	}
}

// compiling has an open definition with these items.
func compiling(f impl.Forth, items []impl.Item) impl.Forth {
	f = clonedForth(f)
	f.Compiling, f.Name, f.Items = true, "name", items
	return f
}

func TestWordsThatAreCompiled(t *testing.T) {
	f := closedForth("5|6", someSources()...)
	f.Machine.Data.Out = ""
	for i, x := range f.Machine.Words {
		if slices.Contains(notTokens(f.Machine.Words), i+1) {
			continue
		}
		for _, name := range []string{x.Name, strings.ToLower(x.Name), upper(x.Name)} {
			wantCompiling(t, f, ": a "+name, "a", itemsOf(fmt.Sprint("w", i+1)))
			wantCompiling(t, compiling(f, itemsOf("5")), name, "name", itemsOf(fmt.Sprint("5 w", i+1)))
		}
		wantDefined(t, f, ": a "+x.Name+" ;", "a", itemsOf(fmt.Sprint("w", i+1)))
	}
	for _, name := range kernelNames()[2] {
		wantThrown(t, compiling(f, nil), name, -13)
	}
}

func TestNumbersThatAreCompiled(t *testing.T) {
	for base := 2; base <= 16; base++ {
		f := newForth("5|6")
		f.Machine.Data.Base = base
		for _, n := range cells()[:30] {
			text, _ := impl.CellText(n, base)
			wantCompiling(t, f, ": a "+strings.ToLower(text), "a", itemsOf(fmt.Sprint(n)))
		}
	}
	wantDefined(t, newForth(ofCells(32)), ": a 1 -2 4294967299 ;", "a", itemsOf("1 -2 3"))
	// HEX is compiled, so that it does not change how the rest is read.
	wantDefined(t, newForth(""), ": a hex 10 decimal ;", "a", sourceItems("HEX 10 DECIMAL"))
	wantDefined(t, newForth(""), "hex : a 10 ;", "a", sourceItems("16"))
}

func TestEveryStructureIsCompiled(t *testing.T) {
	for _, source := range []string{
		"", "DUP", "IF THEN", "IF ELSE THEN", "BEGIN UNTIL", "BEGIN WHILE REPEAT", "DO LOOP", "DO +LOOP", "RECURSE",
		"1 IF 2 THEN 3", "1 IF 2 ELSE 3 THEN 4", "BEGIN 1 UNTIL 2", "BEGIN 1 WHILE 2 REPEAT 3", "3 0 DO I . LOOP", "9 0 DO I 2 +LOOP",
		"IF IF THEN ELSE BEGIN UNTIL THEN", "DO BEGIN IF DO LOOP ELSE DO 1 +LOOP THEN WHILE IF THEN REPEAT +LOOP", "BEGIN BEGIN WHILE BEGIN UNTIL REPEAT WHILE REPEAT",
		"DUP IF 1- RECURSE ELSE RECURSE THEN RECURSE", "IF THEN IF THEN DO LOOP BEGIN UNTIL",
		strings.Repeat("IF ", maxDepth) + strings.Repeat("THEN ", maxDepth), strings.Repeat("DO ", maxDepth) + strings.Repeat("1 +LOOP ", maxDepth),
		strings.Repeat("BEGIN ", maxDepth) + strings.Repeat("WHILE REPEAT ", maxDepth), strings.Repeat("BEGIN ", maxDepth) + strings.Repeat("UNTIL ", maxDepth),
	} {
		for _, text := range []string{source, strings.ToLower(source)} {
			f := wantDefined(t, newForth("5|6"), ": a "+text+" ;", "a", sourceItems(source))
			wantDefined(t, f, ": b 7 "+text+" ;", "b", sourceItems("7 "+source))
			wantCompiling(t, newForth("5|6"), ": a "+text, "a", sourceItems(source))
		}
	}
}

// TestClosedByTheWrongWord has every word behind every open structure, which
// may be within others.
func TestClosedByTheWrongWord(t *testing.T) {
	words := strings.Fields("ELSE THEN UNTIL WHILE REPEAT LOOP +LOOP")
	for open, fitting := range map[string]string{"IF": "ELSE THEN", "IF 1 ELSE": "THEN", "BEGIN": "UNTIL WHILE", "BEGIN 1 WHILE": "REPEAT", "DO": "LOOP +LOOP"} {
		for _, before := range []string{"", "IF THEN", "IF", "BEGIN", "DO 5", "IF 5 ELSE BEGIN 5 WHILE"} {
			items := sourceItems(before + " " + open)
			f := compiling(newForth("5|6"), items)
			for _, w := range append(words, ";") {
				if slices.Contains(strings.Fields(fitting), w) {
					wantCompiling(t, f, w, "name", slices.Concat(items, sourceItems(w)))
					continue
				}
				wantThrown(t, f, w, -22)
				wantThrown(t, f, strings.ToLower(w)+" 1 dup", -22)
				wantThrown(t, newForth("5|6"), fmt.Sprintf(": name %s %s %s 1 ;", before, open, w), -22)
			}
		}
	}
	for _, before := range []string{"", "5", "IF THEN", "DO BEGIN UNTIL LOOP"} {
		for _, w := range words {
			wantThrown(t, compiling(newForth("5|6"), sourceItems(before)), w, -22)
			wantThrown(t, newForth("5|6"), fmt.Sprintf(": name %s %s ;", before, w), -22)
		}
	}
}

func TestNineStructures(t *testing.T) {
	for _, name := range []string{"IF", "BEGIN", "DO", "IF ELSE", "BEGIN WHILE"} {
		eight := itemsOf(strings.Repeat(name+" ", maxDepth))
		for _, w := range []string{"if", "begin", "do"} {
			wantThrown(t, compiling(newForth("5"), eight), w, -22)
			wantThrown(t, newForth("5"), ": a "+strings.Repeat(name+" ", maxDepth)+w, -22)
		}
		for _, w := range []string{"5", "DUP", "RECURSE"} {
			wantCompiling(t, compiling(newForth("5"), eight), w, "name", append(slices.Clone(eight), sourceItems(w)...))
		}
	}
}

// TestWordsNotAllowedInDefinitions neither read the next word nor look at what
// there is room for.
func TestWordsNotAllowedInDefinitions(t *testing.T) {
	for _, w := range readers() {
		for _, name := range []string{w, strings.ToLower(w)} {
			for _, next := range []string{"", " b", " thirteenbytes", " ;", " zap"} {
				wantThrown(t, newForth("5|6"), ": a "+name+next, -14)
				wantThrown(t, compiling(newForth(""), itemsOf("IF")), name+next, -14)
				wantThrown(t, compiling(fullForth(), fiveItems(maxItems)), name+next, -14)
			}
			got, throw, code := impl.EvalWord(compiling(newForth("5"), itemsOf("IF")), name)
			if code != impl.OK || throw != -14 || !equalForths(got, newForth("")) {
				t.Errorf("EvalWord of %s = %s, %d, %d", name, forthText(got), throw, code)
			}
		}
	}
}

func TestTokensThatAreCompiled(t *testing.T) {
	f := newForth(ofCells(32)) // nothing is pushed onto it
	wantCompiling(t, f, ": a ['] dup", "a", itemsOf("1"))
	wantCompiling(t, f, ": a ['] execute ['] EXIT", "a", itemsOf("54 53"))
	wantCompiling(t, withWords(f, 3), ": a ['] w86 ['] w84", "a", itemsOf("86 84"))
	wantDefined(t, f, ": a if ['] dup else ['] drop then execute ;", "a", sourceItems("IF 1 ELSE 2 THEN EXECUTE"))
	wantDefined(t, f, ": a ['] ( comment ) dup ;", "a", itemsOf("1"))
}

func TestSemicolonWithOpenStructures(t *testing.T) {
	for _, source := range []string{"IF", "IF ELSE", "BEGIN", "BEGIN WHILE", "DO", "IF THEN IF", "DO IF THEN", "IF IF THEN ELSE"} {
		for _, f := range []impl.Forth{newForth("5|6"), withWords(newForth(""), maxUser), withCells(newForth(""), maxCode)} {
			wantThrown(t, compiling(f, itemsOf(source)), ";", -22)
			wantThrown(t, compiling(f, itemsOf(source)), "; 1 2", -22)
		}
	}
}

func TestSemicolonWithFullDictionary(t *testing.T) {
	for _, items := range [][]impl.Item{nil, itemsOf("5"), sourceItems("IF RECURSE THEN"), fiveItems(maxItems)} {
		for count := range maxUser + 1 {
			f := compiling(withWords(newForth("5|6"), count), items)
			if count < maxUser {
				wantDefined(t, f, ";", "name", items)
			} else {
				wantThrown(t, f, ";", -8)
				wantThrown(t, withCells(f, maxCode), "; 1", -8)
			}
		}
	}
}

// TestSemicolonUpToMaxCode ends with the last cell of the code, or one behind.
func TestSemicolonUpToMaxCode(t *testing.T) {
	for _, source := range []string{"", "DUP", "5", "RECURSE", "IF 5 ELSE 6 THEN", "BEGIN WHILE REPEAT", "3 0 DO I LOOP", strings.Repeat("5 ", maxItems)} {
		items := sourceItems(source)
		size := len(blockCodeOf(items)) + 1
		for more := -2; more <= 2; more++ {
			f := compiling(withCells(newForth("5|6"), min(maxCode-size+more, maxCode)), items)
			if more > 0 {
				wantThrown(t, f, ";", -8)
				continue
			}
			got := wantDefined(t, f, ";", "name", items)
			if len(got.Machine.Code) != maxCode+more {
				t.Errorf("%q leaves code of %d cells", source, len(got.Machine.Code))
			}
		}
		if source != "" {
			wantThrown(t, compiling(withCells(newForth(""), maxCode), items), ";", -8)
		}
	}
	full := withCells(newForth(""), maxCode)
	wantThrown(t, full, ": a ;", -8)
	wantThrown(t, withCells(newForth(""), maxCode-1), ": a 1 ;", -8)
	wantThrown(t, compiling(full, itemsOf("IF")), ";", -22)
	wantThrown(t, compiling(withWords(full, maxUser), itemsOf("IF")), ";", -22)
	wantLine(t, withCells(newForth(""), maxCode-3), lineCase{": a 1 ; a", 0, "1", "", 3})
}

func TestRecurse(t *testing.T) {
	for _, v := range []lineCase{
		{": fact dup 2 < if drop 1 exit then dup 1- recurse * ; 5 fact", 0, "120", "", 44},
		{": down dup if 1- RECURSE then ; 3 down", 0, "0", "", 19},
		{": a recurse ; a", -50, "", "", 17},
		{": a 1 recurse ; ' a catch", 0, "-50", "", 32},
		{": a dup if 1- ['] recurse execute then ; 3 a", -24, "", "", 0},
		{"recurse", -14, "", "", 0},
	} {
		wantLine(t, newForth(""), v)
	}
	wantCompiling(t, newForth(""), ": a recurse Recurse", "a", itemsOf("RECURSE RECURSE"))
	f := wantDefined(t, newForth(""), ": a 1 ;", "a", itemsOf("1"))
	wantDefined(t, f, ": a recurse a ;", "a", itemsOf("RECURSE w84"))
}

// TestUpToMaxItems has one item more in each of the ways to append one.
func TestUpToMaxItems(t *testing.T) {
	for _, w := range []string{"5", "dup", "if", "begin", "do", "recurse", "['] dup"} {
		last := append(fiveItems(maxItems-1), itemsOf(map[string]string{"5": "5", "dup": "w1", "if": "IF", "begin": "BEGIN", "do": "DO", "recurse": "RECURSE", "['] dup": "1"}[w])...)
		wantCompiling(t, compiling(newForth("5"), fiveItems(maxItems-1)), w, "name", last)
		wantThrown(t, compiling(newForth("5"), fiveItems(maxItems)), w, -8)
		wantThrown(t, compiling(newForth("5"), fiveItems(maxItems)), w+" 1 ;", -8)
		wantThrown(t, compiling(newForth("5"), fiveItems(maxItems-1)), "5 "+w, -8)
	}
	for w, throw := range map[string]int{
		"then": -8, "else": -8, "until": -8, "while": -8, "repeat": -8, "loop": -8, "+loop": -8, "zap": -13, "(lit)": -13, "['] zap": -13, "[']": -13, "['] if": -24, "['] thirteenbytes": -13, ":": -14, "' dup": -14, "variable v": -14, "constant c": -14,
	} {
		wantThrown(t, compiling(newForth("5"), fiveItems(maxItems)), w, throw)
	}
	sixty := ": a " + strings.Repeat("1 ", maxItems)
	wantDefined(t, newForth(""), sixty+";", "a", slices.Repeat(itemsOf("1"), maxItems))
	wantThrown(t, newForth(""), sixty+"1 ;", -8)
	wantThrown(t, newForth(""), sixty+"dup", -8)
	open := append(itemsOf("IF"), fiveItems(maxItems-1)...)
	wantThrown(t, compiling(newForth(""), open), "then", -8)
	wantThrown(t, compiling(newForth(""), open), "until", -8)
	wantThrown(t, compiling(newForth(""), open), ";", -22)
	wantDefined(t, compiling(newForth(""), open[:maxItems-1]), "then ;", "name", append(slices.Clone(open[:maxItems-1]), itemsOf("THEN")...))
}

// TestDefinitionOverSeveralLines has lines that begin, go on with and end a
// definition, with words before and behind it.
func TestDefinitionOverSeveralLines(t *testing.T) {
	f := wantLine(t, newForth("5|6"), lineCase{"7 drop : Name", 0, "5|6", "", 1})
	f = wantCompiling(t, f, "", "Name", nil)
	f = wantCompiling(t, f, "dup ( a b) 2 < if", "Name", sourceItems("DUP 2 < IF"))
	f = wantCompiling(t, f, "\\ a comment ;", "Name", f.Items)
	f = wantCompiling(t, f, "  ( nothing )  ", "Name", f.Items)
	f = wantCompiling(t, f, "['] drop else", "Name", sourceItems("DUP 2 < IF 2 ELSE"))
	f = wantDefined(t, f, "1 then ;", "Name", sourceItems("DUP 2 < IF 2 ELSE 1 THEN"))
	wantLine(t, f, lineCase{"name 1 nAME", 0, "5 1 1 2|6", "", 15})
	f = wantLine(t, newForth("5|6"), lineCase{": a 1", 0, "5|6", "", 0})
	f = wantLine(t, f, lineCase{"2 ; a : b", 0, "5 1 2|6", "", 4})
	f = wantLine(t, f, lineCase{"a", 0, "5 1 2|6", "", 0})
	wantLine(t, f, lineCase{"a ; b .", 0, "5 1 2 1 2 1|6", "2 ", 11})
	wantThrown(t, f, "zap", -13)
	wantThrown(t, f, "1 ( 2", -22)
}

// TestNamesUsedAgain has words that keep what they were compiled with.
func TestNamesUsedAgain(t *testing.T) {
	for _, v := range []lineCase{
		{": a 1 ; : b a ; : a 2 ; a b", 0, "2 1", "", 8},
		{": a 1 ; : a a a ; a", 0, "1 1", "", 8},
		{": a 1 ; : A a 2 ; a A", 0, "1 2 1 2", "", 12},
		{": a a ;", -13, "", "", 0},
		{": a 1 a ;", -13, "", "", 0},
		{": dup dup dup ; 5 dup", 0, "5 5 5", "", 4},
		{": drop 5 drop ; drop", 0, "", "", 4},
		{"1 constant c : b c ; 2 constant c b c", 0, "1 2", "", 4},
		{"variable v : b v ; variable v v b -", 0, "4", "", 5},
		{": c 1 ; 5 constant c c", 0, "5", "", 1},
		{"5 constant c : c 1 ; c", 0, "1", "", 3},
		{": a 1 ; : a 2 recurse ; ' a catch depth nip", 0, "1", "", 34},
		{": a 1 ; : a ['] a execute ; a", 0, "1", "", 7},
	} {
		wantLine(t, newForth(""), v)
	}
	f := newForth("")
	for i := range maxUser {
		f = wantLine(t, f, lineCase{fmt.Sprintf(": a %d ; a", i), 0, ofNumbers(i + 1), "", 3})
	}
}

func ofNumbers(size int) string {
	var parts []string
	for i := range size {
		parts = append(parts, fmt.Sprint(i))
	}
	return strings.Join(parts, " ")
}
