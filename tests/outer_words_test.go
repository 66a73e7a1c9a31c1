package tests

// Promise 13, word by word in interpretation state: tokens, numbers, words of
// kind WdSyntax, and the words that read the next word of the line.

import (
	"fmt"
	"slices"
	"strings"
	"testing"

	"loop.example/g00787/impl"
)

// lineCase is a line, and what it leaves and says.
type lineCase struct {
	line  string
	throw int
	after string // both stacks
	said  string
	used  int
}

// wantLine returns the Forth behind the line.
func wantLine(t *testing.T, f impl.Forth, v lineCase) impl.Forth {
	t.Helper()
	got, report := evalLine(t, f, v.line)
	stack, back := stacksOf(v.after)
	if report.Throw != v.throw || !slices.Equal(report.Stack, stack) || !slices.Equal(got.Machine.Data.Back, back) || report.Said != v.said {
		t.Errorf("the line %q leaves %v | %v, says %q and throws %d, not %+v", v.line, report.Stack, got.Machine.Data.Back, report.Said, report.Throw, v)
	}
	if f.Machine.Fuel-report.Fuel != v.used {
		t.Errorf("the line %q uses %d, not %d", v.line, f.Machine.Fuel-report.Fuel, v.used)
	}
	return got
}

// newForth has the stacks and fuel.
func newForth(stacks string) impl.Forth {
	f := impl.NewForth()
	f.Machine.Data.Stack, f.Machine.Data.Back = stacksOf(stacks)
	f.Machine.Fuel = maxFuel
	return f
}

// forthAfter interprets lines that throw nothing.
func forthAfter(t *testing.T, lines ...string) impl.Forth {
	t.Helper()
	f := newForth("")
	for _, line := range lines {
		next, report := evalLine(t, f, line)
		if report.Throw != 0 {
			t.Fatalf("the line %q throws %d", line, report.Throw)
		}
		f = next
	}
	return f
}

// withWords is full of words up to the number of them, one of which is w84 with
// the value 84, and so on.
func withWords(f impl.Forth, count int) impl.Forth {
	f = clonedForth(f)
	for len(f.Machine.Words) < kernelSize+count {
		n := len(f.Machine.Words) + 1
		f.Machine.Words = append(f.Machine.Words, impl.Word{Name: fmt.Sprint("w", n), Kind: impl.WdConst, Value: n})
	}
	return f
}

func TestTokensInALine(t *testing.T) {
	for _, v := range []lineCase{
		{"", 0, "5|6", "", 0},
		{"dup", 0, "5 5|6", "", 1},
		{"DUP Dup", 0, "5 5 5|6", "", 2},
		{"1 2 + .", 0, "5|6", "3 ", 2},
		{"r> >r", 0, "5|6", "", 2},
		{"7 >r r@ i", 0, "5 7 7|6 7", "", 3},
		{"r> r>", -6, "", "", 2},
		{"drop drop", -4, "", "", 2},
		{"65 emit cr space", 0, "5|6", "A\n ", 3},
		{"exit", -14, "", "", 1},
		{"1 dup ' + execute", 0, "5 2|6", "", 3},
		{"' drop catch", 0, "0|6", "", 2},
		{"0 throw", 0, "5|6", "", 1},
		{"7 throw", 7, "", "", 1},
		{"-101 throw", -24, "", "", 1},
		{"hread", -100, "", "", 1},
		{"htime", -100, "", "", 1},
		{"here 8 allot here swap -", 0, "5 8|6", "", 5},
		{"here 3 , @", 0, "5 3|6", "", 3},
		{"variable v 3 v ! v @ v", 0, "5 3 4096|6", "", 5},
		{"constant c c c c", 0, "5 5 5|6", "", 3},
		{": sq dup * ; 9 sq", 0, "5 81|6", "", 4},
		{"depth depth depth", 0, "5 1 2 3|6", "", 3},
		{"(lit) 5", -13, "", "", 0},
		{"(branch)", -13, "", "", 0},
		{"(do)", -13, "", "", 0},
		{"zap", -13, "", "", 0},
		{"1 zap 2", -13, "", "", 0},
		{"dup\t", -13, "", "", 0},
	} {
		wantLine(t, newForth("5|6"), v)
	}
}

// TestEveryTokenInALine compares a line of each token with its run.
func TestEveryTokenInALine(t *testing.T) {
	f := closedForth("", someSources()...)
	for number, x := range f.Machine.Words {
		token := number + 1
		if slices.Contains(notTokens(f.Machine.Words), token) {
			continue
		}
		for _, stacks := range []string{"", "5", "3 2 1", "4100 4104|6 7", "5 DUP", "7 0", ofCells(31), ofCells(32) + "|" + ofCells(32)} {
			f.Machine.Data.Stack, f.Machine.Data.Back = stacksOf(stacks)
			want, throw, _, _ := impl.RunToken(f.Machine, token)
			got, report := evalLine(t, f, x.Name)
			if throw != 0 {
				want.Data.Stack, want.Data.Back = nil, nil
			}
			said := want.Data.Out
			want.Data.Out = ""
			if report.Throw != throw || report.Said != said || !equalMachines(got.Machine, want) {
				t.Errorf("%s on %s leaves %s and throws %d, not %s and %d", x.Name, stacks, machineText(got.Machine), report.Throw, machineText(want), throw)
			}
		}
	}
}

// TestSyntaxInInterpretation has every word of kind WdSyntax, but for the ones
// that read the next word.
func TestSyntaxInInterpretation(t *testing.T) {
	for _, name := range strings.Fields("; IF ELSE THEN BEGIN UNTIL WHILE REPEAT DO LOOP +LOOP RECURSE [']") {
		for _, w := range []string{name, strings.ToLower(name)} {
			wantLine(t, newForth("5|6"), lineCase{w, -14, "", "", 0})
			wantLine(t, newForth("5|6"), lineCase{"1 . " + w + " dup", -14, "", "1 ", 1})
			wantLine(t, newForth(""), lineCase{w + " " + w, -14, "", "", 0})
			wantLine(t, withWords(newForth(ofCells(32)), maxUser), lineCase{w + " a", -14, "", "", 0})
			got, throw, code := impl.EvalWord(newForth("5|6"), w)
			if code != impl.OK || throw != -14 || !equalForths(got, newForth("")) {
				t.Errorf("EvalWord of %s = %s, %d, %d", w, forthText(got), throw, code)
			}
		}
	}
}

func TestNumbersInEachBase(t *testing.T) {
	for base := 2; base <= 16; base++ {
		f := newForth("")
		f.Machine.Data.Base = base
		for _, n := range cells() {
			text, _ := impl.CellText(n, base)
			for _, line := range []string{text, strings.ToLower(text), " " + text + " ( a number ) "} {
				got := wantLine(t, f, lineCase{line, 0, fmt.Sprint(n), "", 0})
				if got.Machine.Data.Base != base {
					t.Errorf("the number %s changes the base %d", text, base)
				}
			}
			wantLine(t, f, lineCase{text + " " + text, 0, fmt.Sprint(n, " ", n), "", 0})
		}
		highest := allDigits[base-1 : base]
		wantLine(t, f, lineCase{highest, 0, fmt.Sprint(base - 1), "", 0})
		wantLine(t, f, lineCase{"1" + highest, 0, fmt.Sprint(2*base - 1), "", 0})
		for _, word := range []string{(allDigits + "G")[base : base+1], "1G", "G", "-G", "--1", "+1", "1-1", "1.", "1_1", "0x1", strings.Repeat("1", 33), "-" + strings.Repeat("0", 33), "1\x00", "é"} {
			wantLine(t, f, lineCase{"1 " + word, -13, "", "", 0})
			wantLine(t, f, lineCase{": a " + word, -13, "", "", 0})
		}
	}
}

func TestNumbersThatDoNotFitACell(t *testing.T) {
	for _, v := range []lineCase{
		{"2147483647 2147483648 -2147483648 -2147483649", 0, "2147483647 -2147483648 -2147483648 2147483647", "", 0},
		{"4294967295 4294967296 4294967297", 0, "-1 0 1", "", 0},
		{"99999999999999999999999999999999", 0, "-1", "", 0},
		{"-00000000000000000000000000000007", 0, "-7", "", 0},
		{"hex ffffffff 123456789abcdef -ffffffff", 0, "-1 -1985229329 1", "", 1},
		{"hex FFFFFFFFFFFFFFFFFFFFFFFFFFFFFFFF", 0, "-1", "", 1},
		{"hex 1FFFFFFFFFFFFFFFFFFFFFFFFFFFFFFFF", -13, "", "", 1},
		{": a 4294967297 -2147483649 ; a", 0, "1 2147483647", "", 4},
	} {
		wantLine(t, newForth(""), v)
	}
	n := strings.Repeat("9", 32)
	if number, is := numberIn(n, 10); !is || number != -1 { // 10^32 is a multiple of 2^32
		t.Errorf("the model reads %s as %d", n, number)
	}
}

// TestNumbersThatAreNames are found as words first, in each base and state.
func TestNumbersThatAreNames(t *testing.T) {
	for _, v := range []lineCase{
		{"7 constant 5 5 5", 0, "7 7", "", 2},
		{"7 constant -1 -1 1 - 2 -1", 0, "6 2 7", "", 3},
		{": face 3 ; hex face FACE fade", 0, "3 3 64222", "", 7},
		{": face 3 ; hex : a face ; a", 0, "3", "", 6},
		{"hex 9 constant bad decimal bad", 0, "9", "", 3},
		{"hex a b c", 0, "10 11 12", "", 1},
		{"hex variable a a b", 0, "4096 11", "", 2},
		{"hex 0b", 0, "11", "", 1},
		{"variable 0 0", 0, "4096", "", 1},
		{"' 5", -13, "", "", 0},
		{": 5 6 ; ' 5 5", 0, "84 6", "", 3},
		{": a ['] 5 ;", -13, "", "", 0},
		{": 12 34 ; : a 12 ['] 12 ; a", 0, "34 84", "", 6},
		{"2dup", -4, "", "", 1},
		{"1 1+ 1-", 0, "1", "", 2},
		{"hex 1+", -4, "", "", 2},
	} {
		wantLine(t, newForth(""), v)
	}
}

func TestNumbersOnFullStack(t *testing.T) {
	for size := 30; size <= maxStack; size++ {
		f := newForth(ofCells(size))
		for count := range 4 {
			v := lineCase{strings.Repeat("1 ", count), 0, ofCells(size + count), "", 0}
			if size+count > maxStack {
				v.throw, v.after = -3, ""
			}
			wantLine(t, f, v)
			wantLine(t, f, lineCase{v.line + " zap", map[bool]int{true: -13, false: v.throw}[v.throw == 0], "", "", 0})
		}
	}
	wantLine(t, newForth(ofCells(32)), lineCase{"1 drop", -3, "", "", 0})
	wantLine(t, newForth(ofCells(32)), lineCase{"drop 1", 0, ofCells(32), "", 1})
	wantLine(t, newForth(ofCells(32)), lineCase{"zap", -13, "", "", 0})
	wantLine(t, newForth(ofCells(32)), lineCase{": a 1 2 3", 0, ofCells(32), "", 0})
}
