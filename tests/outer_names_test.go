package tests

// Promise 13, the words that read the next word of the line as a name: which
// names they take, what they make of them, and which throw comes first where
// there are two.

import (
	"fmt"
	"slices"
	"strings"
	"testing"

	"loop.example/g00787/impl"
)

// readers are the words that read the next word in interpretation state.
func readers() []string {
	return []string{":", "VARIABLE", "CONSTANT", "'"}
}

// withCellsAllotted has no room for more cells from 32 on.
func withCellsAllotted(f impl.Forth, here int) impl.Forth {
	f = clonedForth(f)
	f.Machine.Data.Cells, f.Machine.Data.Here = filled(maxCells), here
	return f
}

// fullForth has as many words and cells as there may be, and full stacks.
func fullForth() impl.Forth {
	return withCellsAllotted(withWords(newForth(ofCells(32)+"|"+ofCells(32)), maxUser), maxCells)
}

func TestNoNextWord(t *testing.T) {
	for _, w := range readers() {
		for _, name := range []string{w, strings.ToLower(w)} {
			for _, f := range []impl.Forth{newForth(""), newForth("5|6"), newForth(ofCells(32)), withWords(newForth(""), maxUser), withCellsAllotted(newForth(""), maxCells), fullForth()} {
				for _, line := range []string{name, " " + name + "  ", name + " ( comment )", name + ` \ name`, name + ` ( a) \ b`} {
					got := wantLine(t, f, lineCase{line, -13, "", "", 0})
					want := clonedForth(f)
					throwWork(&want)
					if !equalForths(got, want) {
						t.Errorf("the line %q leaves %s", line, forthText(got))
					}
				}
			}
		}
	}
	wantLine(t, newForth(""), lineCase{"1 . '", -13, "", "1 ", 1})
	wantLine(t, newForth(""), lineCase{": a [']", -13, "", "", 0})
	wantLine(t, newForth(""), lineCase{": a ['] ( dup )", -13, "", "", 0})
	wantLine(t, newForth(""), lineCase{"' dup '", -13, "", "", 0})
}

func TestNextWordThatIsNoName(t *testing.T) {
	for _, w := range append(readers(), ": a [']") {
		for _, name := range notWordNames() {
			if strings.Contains(name, " ") || name == "" || len(name) > 300 {
				continue
			}
			for _, f := range []impl.Forth{newForth("5|6"), newForth(""), fullForth()} {
				if len(f.Machine.Words) == wordNumbers && w == ": a [']" {
					f.Machine.Words = f.Machine.Words[:kernelSize]
				}
				got := wantLine(t, f, lineCase{w + " " + name + " 1", -13, "", "", 0})
				if len(got.Machine.Words) != len(f.Machine.Words) || got.Machine.Data.Here != f.Machine.Data.Here {
					t.Errorf("%s %q leaves %s", w, name, forthText(got))
				}
			}
		}
	}
}

// newWord interprets a line and returns the word that it adds.
func newWord(t *testing.T, f impl.Forth, line string) impl.Word {
	t.Helper()
	got, report := evalLine(t, f, line)
	words := len(got.Machine.Words)
	if report.Throw != 0 || words != len(f.Machine.Words)+1 {
		t.Fatalf("the line %q adds %d words and throws %d", line, words-len(f.Machine.Words), report.Throw)
	}
	return got.Machine.Words[words-1]
}

// TestNamesOfNewWords are kept as they are written, also those that mean
// something else elsewhere.
func TestNamesOfNewWords(t *testing.T) {
	for _, name := range append(wordNames(), "Mixed", "lower", "UPPER", "constant", ":", "'", ")", "()", "a(b)", "(a", `\\`, `a\b`) {
		if name == "(" || name == `\` {
			continue // they begin comments
		}
		f := newForth("5|6")
		for line, want := range map[string]impl.Word{
			"variable " + name:      {Name: name, Kind: impl.WdVar, Value: dataBase},
			"VARIABLE " + name:      {Name: name, Kind: impl.WdVar, Value: dataBase},
			"constant " + name:      {Name: name, Kind: impl.WdConst, Value: 5},
			": " + name + " ;":      {Name: name, Kind: impl.WdColon},
			": " + name + " dup  ;": {Name: name, Kind: impl.WdColon},
		} {
			if got := newWord(t, f, line); got != want {
				t.Errorf("the line %q adds %v, not %v", line, got, want)
			}
		}
	}
	for line, throw := range map[string]int{`variable \ a`: -13, "variable ( a )": -13, "constant ( a": -22} {
		wantLine(t, newForth("5"), lineCase{line, throw, "", "", 0})
	}
	if got := newWord(t, newForth(""), "variable ( a comment ) v"); got.Name != "v" {
		t.Errorf("the variable is %v", got)
	}
}

// TestWordsThatAreDefinedAnew have the names of the words that a line needs.
func TestWordsThatAreDefinedAnew(t *testing.T) {
	for _, v := range []lineCase{
		{": ; 5 ; ; ;", 0, "5 5", "", 6},
		{": : 42 ; : : a", -13, "", "", 6},
		{": : 42 ; :", 0, "42", "", 3},
		{"3 constant variable variable", 0, "3", "", 1},
		{"3 constant constant constant 4", 0, "3 4", "", 1},
		{"variable ' '", 0, "4096", "", 1},
		{": if 42 ; if", 0, "42", "", 3},
		{": if 42 ; : x if ; x", 0, "42", "", 5},
		{": recurse 9 ; : a recurse ; a", 0, "9", "", 5},
		{": ['] 7 ; : a ['] dup ; a", 0, "7 7", "", 6},
		{": ['] 7 ; ['] ['] +", 0, "14", "", 7},
		{": dup 8 ; dup dup", 0, "8 8", "", 6},
		{": (lit) 8 ; (lit) (LIT)", 0, "8 8", "", 6},
		{": a : ;", -14, "", "", 0},
		{": ; 1 : ; ;", -14, "", "", 0},
		{"variable (do) (do)", 0, "4096", "", 1},
		{"1 constant then : a if then ; a", -22, "", "", 0},
	} {
		wantLine(t, newForth(""), v)
	}
}

func TestVariables(t *testing.T) {
	f := withCellsAllotted(newForth("5|6"), 0)
	for here := range maxCells {
		f = withCellsAllotted(f, here)
		got := wantLine(t, f, lineCase{"variable v v @", 0, "5 0|6", "", 2})
		want := slices.Clone(f.Machine.Data.Cells)
		want[here] = 0
		if got.Machine.Data.Here != here+1 || !slices.Equal(got.Machine.Data.Cells, want) || got.Machine.Words[kernelSize].Value != dataBase+4*here {
			t.Errorf("a variable behind %d cells leaves %s", here, forthText(got))
		}
		wantLine(t, f, lineCase{"variable v 7 v ! v @ v here swap -", 0, "5 7 4|6", "", 8})
	}
	wantLine(t, newForth(ofCells(32)), lineCase{"variable v", 0, ofCells(32), "", 0})
	wantLine(t, newForth(""), lineCase{"variable a -4 allot variable b a b", 0, "4096 4096", "", 3})
	for _, f := range []impl.Forth{withCellsAllotted(newForth("5|6"), maxCells), withWords(withCellsAllotted(newForth("5|6"), maxCells), maxUser-1), fullForth()} {
		got := wantLine(t, f, lineCase{"variable v 1 2", -8, "", "", 0})
		if len(got.Machine.Words) != len(f.Machine.Words) || !slices.Equal(got.Machine.Data.Cells, f.Machine.Data.Cells) || got.Machine.Data.Here != maxCells {
			t.Errorf("a variable without room leaves %s", forthText(got))
		}
	}
	wantLine(t, newForth(""), lineCase{"124 allot variable v v variable w", -8, "", "", 2})
}

func TestConstants(t *testing.T) {
	for _, n := range cells() {
		f := newForth(fmt.Sprint("5 ", n, "|6"))
		if got := newWord(t, f, "constant c"); got.Value != n || got.Kind != impl.WdConst {
			t.Errorf("a constant of %d is %v", n, got)
		}
		wantLine(t, f, lineCase{"constant c c c", 0, fmt.Sprint("5 ", n, " ", n, "|6"), "", 2})
	}
	wantLine(t, newForth(ofCells(32)), lineCase{"constant c", 0, ofCells(31), "", 0})
	wantLine(t, withCellsAllotted(newForth("5|6"), maxCells), lineCase{"constant c c c", 0, "5 5|6", "", 2})
	for _, f := range []impl.Forth{newForth(""), newForth("|6"), withCellsAllotted(newForth(""), maxCells), withWords(newForth(""), maxUser-1)} {
		got := wantLine(t, f, lineCase{"constant c 1 2", -4, "", "", 0})
		if len(got.Machine.Words) != len(f.Machine.Words) {
			t.Errorf("a constant of nothing leaves %s", forthText(got))
		}
	}
	wantLine(t, newForth("5"), lineCase{"constant a constant b", -4, "", "", 0})
	wantLine(t, newForth("5"), lineCase{"drop constant a", -4, "", "", 1})
}

func TestColonOpensADefinition(t *testing.T) {
	for _, f := range []impl.Forth{newForth("5|6"), newForth(ofCells(32)), newForth(""), withCellsAllotted(newForth("5"), maxCells), withWords(newForth("5"), maxUser-1), withCells(newForth("5"), maxCode)} {
		got, report := evalLine(t, f, ": name")
		want := clonedForth(f)
		want.Compiling, want.Name = true, "name"
		if report.Throw != 0 || !report.Compiling || !equalForths(got, want) {
			t.Errorf(": name leaves %s and the report %v", forthText(got), report)
		}
	}
}

// TestMaxUserWords fills the dictionary up to its last word.
func TestMaxUserWords(t *testing.T) {
	for _, line := range []string{"1 constant k", "variable k", ": k 1 ;", ": k"} {
		for _, count := range []int{0, 1, maxUser - 2, maxUser - 1} {
			if _, report := evalLine(t, withWords(newForth("5|6"), count), line); report.Throw != 0 {
				t.Errorf("%q behind %d words throws %d", line, count, report.Throw)
			}
		}
		for _, stacks := range []string{"", "5|6", ofCells(31)} {
			f := withWords(newForth(stacks), maxUser)
			got := wantLine(t, f, lineCase{line, -8, "", "", 0})
			want := clonedForth(f)
			throwWork(&want)
			if !equalForths(got, want) {
				t.Errorf("%q behind %d words leaves %s", line, maxUser, forthText(got))
			}
		}
	}
	f := withWords(newForth(""), maxUser-1)
	wantLine(t, f, lineCase{": k 1 ; : l 2", -8, "", "", 0})
	wantLine(t, f, lineCase{": k 1 ; k ' k", 0, "1 103", "", 3})
	wantLine(t, f, lineCase{"1 constant k 2 constant l", -8, "", "", 0})
	wantLine(t, f, lineCase{"variable k variable l", -8, "", "", 0})
}

// TestFirstOfTwoThrowsOfNames has the throws in their order.
func TestFirstOfTwoThrowsOfNames(t *testing.T) {
	full, stackFull := fullForth(), newForth(ofCells(32))
	noCells := withCellsAllotted(newForth(""), maxCells)
	noWords := withWords(newForth(""), maxUser)
	for i, v := range []struct {
		f    impl.Forth
		line string
		want int
	}{
		{noWords, ":", -13}, {noWords, ": thirteenbytes", -13}, {noWords, ": a", -8},
		{noWords, "variable", -13}, {noWords, "variable é", -13}, {noCells, "variable", -13}, {noCells, "variable thirteenbytes", -13}, {noCells, "variable a", -8}, {full, "variable a", -8},
		{newForth(""), "constant", -13}, {newForth(""), "constant thirteenbytes", -13}, {newForth(""), "constant a", -4}, {noWords, "constant", -13}, {noWords, "constant \x7f", -13}, {noWords, "constant a", -8}, {full, "constant a", -8},
		{stackFull, "'", -13}, {stackFull, "' thirteenbytes", -13}, {stackFull, "' zap", -13}, {stackFull, "' if", -24}, {stackFull, "' dup", -3}, {stackFull, "' (do)", -13}, {full, "' w84", -3}, {noWords, "' zap", -13}, {noWords, "' if", -24}, {noWords, "' w84", 0},
	} {
		if _, report := evalLine(t, v.f, v.line); report.Throw != v.want {
			t.Errorf("case %d, %q, throws %d, not %d", i, v.line, report.Throw, v.want)
		}
	}
}

// TestTokensOfNames has ' and ['] with every word of a dictionary.
func TestTokensOfNames(t *testing.T) {
	f := closedForth("5|6", someSources()...)
	f.Machine.Data.Out = ""
	f.Machine.Words = append(f.Machine.Words, impl.Word{Name: "Dup", Kind: impl.WdConst, Value: 3}, impl.Word{Name: "word86", Kind: impl.WdVar, Value: 4100})
	for i, x := range f.Machine.Words {
		number := lastOf(f.Machine.Words, x.Name)
		throw, after := 0, fmt.Sprint("5 ", number, "|6")
		switch {
		case i >= 56 && i < 62:
			throw, after = -13, ""
		case i >= 66 && i < kernelSize:
			throw, after = -24, ""
		}
		for _, name := range []string{x.Name, strings.ToLower(x.Name), upper(x.Name)} {
			wantLine(t, f, lineCase{"' " + name, throw, after, "", 0})
			got, report := evalLine(t, f, ": a ['] "+name)
			want := []impl.Item{{Kind: impl.ItLit, Value: number}}
			if report.Throw != throw || throw == 0 && !slices.Equal(got.Items, want) {
				t.Errorf("['] %s appends %v and throws %d", name, got.Items, report.Throw)
			}
		}
	}
}

func TestTokensThatAreExecuted(t *testing.T) {
	for _, v := range []lineCase{
		{"3 ' dup execute", 0, "3 3", "", 2},
		{": sq dup * ; 3 ' sq execute", 0, "9", "", 5},
		{": sq dup * ; : t ['] sq execute ; 3 t", 0, "9", "", 8},
		{"variable v ' v execute", 0, "4096", "", 2},
		{"7 constant c ' c catch", 0, "7 0", "", 2},
		{"' zap", -13, "", "", 0},
		{"' (lit)", -13, "", "", 0},
		{"' if", -24, "", "", 0},
		{"' '", -24, "", "", 0},
		{"' [']", -24, "", "", 0},
		{": a ['] zap ;", -13, "", "", 0},
		{": a ['] a ;", -13, "", "", 0},
		{": a ['] ; ;", -24, "", "", 0},
		{": a ['] if ;", -24, "", "", 0},
		{": a ['] ['] ;", -24, "", "", 0},
		{": a 1 ; : a 2 ['] a ; a", 0, "2 84", "", 4},
		{"1 ' throw execute", 1, "", "", 2},
		{"' execute ' execute execute", -4, "", "", 3},
	} {
		wantLine(t, newForth(""), v)
	}
}
