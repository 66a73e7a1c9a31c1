package tests

// Promise 13, throws: one ends the line, empties both stacks and discards the
// open definition; whatever was done before it stays as it was.

import (
	"fmt"
	"slices"
	"strings"
	"testing"

	"loop.example/g00787/impl"
)

// throwingWords has for each throw a way to get it at once, whatever is on the
// stacks.
func throwingWords() map[string]int {
	return map[string]int{
		"zap": -13, "( a": -22, ";": -14, "if": -14, "[']": -14, "recurse": -14, ":": -13, "'": -13, "' zap": -13, "' if": -24, "variable": -13, "constant": -13,
		": a zap": -13, ": a then": -22, ": a if ;": -22, ": a : b": -14, ": a ' dup": -14, ": a ['] if": -24, ": a 1 2 ['] zap": -13,
		"exit": -14, "0 execute": -24, "0 0 /": -10, "0 @": -9, "1 allot": -8, "hread": -100, "htime": -100, "7 throw": 7, "-1 throw": -1, "-101 throw": -24,
		": a recurse ; a": -50, ": a 1 >r ; a": -25, ": a r> ; a": -6, ": a begin drop 0 until ; a": -4, ": a begin 1 0 until ; a": -3, ": a begin 1 >r 0 until ; a": -5, ": a begin 0 until ; a": -101,
	}
}

// TestThrowEndsTheLine has each throw on several stacks, with words behind it
// that would leave something.
func TestThrowEndsTheLine(t *testing.T) {
	seen := map[int]bool{}
	for word, throw := range throwingWords() {
		seen[throw] = true
		line := word + " 1 . 2 variable v"
		if slices.Contains(readers(), upper(word)) {
			line = word
		}
		for _, stacks := range []string{"", "5", "5 6|7 8"} {
			got, report := evalLine(t, newForth(stacks), line)
			if report.Throw != throw || report.Said != "" || len(got.Machine.Data.Stack) > 0 || len(got.Machine.Data.Back) > 0 || got.Compiling || got.Machine.Data.Here > 0 {
				t.Errorf("the line %q on %q leaves %s and throws %d", line, stacks, forthText(got), report.Throw)
			}
		}
	}
	for _, throw := range []int{-3, -4, -5, -6, -8, -9, -10, -13, -14, -22, -24, -25, -50, -100, -101, 7} {
		if !seen[throw] {
			t.Errorf("no word throws %d", throw)
		}
	}
}

// TestThrowOfTooLongOutput reports what there was room for.
func TestThrowOfTooLongOutput(t *testing.T) {
	for _, line := range []string{": a begin 65 emit 0 until ; a", "1 : a begin 65 emit 0 until ; a 2 ."} {
		wantLine(t, newForth("5|6"), lineCase{line, -17, "", strings.Repeat("A", maxOut), 1 + 4*maxOut + 2})
	}
	f := newForth("5|6")
	f.Machine.Data.Out = strings.Repeat("o", maxOut-1)
	wantLine(t, f, lineCase{".", -17, "", f.Machine.Data.Out, 1})
	wantLine(t, f, lineCase{"space", 0, "5|6", f.Machine.Data.Out + " ", 1})
}

// TestThrowLeavesWhatWasDone has a throw behind words that change each part.
func TestThrowLeavesWhatWasDone(t *testing.T) {
	const before = "variable v 7 v ! 3 constant c : sq dup * ; hex 1 . 5 2 hwrite 9 8 7 >r"
	f := newForth("1 2|3")
	f.Machine.Host.Granted[impl.CapWrite] = true
	done, report := evalLine(t, f, before)
	if report.Throw != 0 {
		t.Fatalf("the line throws %d", report.Throw)
	}
	for word, throw := range throwingWords() {
		got, thrown := evalLine(t, f, before+" "+word)
		if word == "( a" {
			want := clonedForth(f)
			throwWork(&want)
			if thrown.Throw != throw || !equalForths(got, want) || thrown.Said != "" {
				t.Errorf("an open comment leaves %s and throws %d", forthText(got), thrown.Throw)
			}
			continue
		}
		m, want := got.Machine, done.Machine
		if thrown.Throw == 0 || thrown.Said != "1 " || thrown.Fuel > report.Fuel || thrown.Fuel != m.Fuel {
			t.Errorf("the throw of %q has the report %v", word, thrown)
		}
		if len(m.Data.Stack) > 0 || len(m.Data.Back) > 0 || m.Data.Base != 16 || m.Data.Here != 1 || m.Data.Cells[0] != 7 || m.Host.Store[2] != 5 || len(m.Host.Deeds) != 1 {
			t.Errorf("the throw of %q leaves %s", word, forthText(got))
		}
		if names := fmt.Sprint(m.Words[kernelSize:][:3]); names != fmt.Sprint(want.Words[kernelSize:]) || len(got.Defs) < 1 {
			t.Errorf("the throw of %q leaves the words %s", word, names)
		}
	}
}

// TestThrowDiscardsTheDefinition that an earlier line has opened.
func TestThrowDiscardsTheDefinition(t *testing.T) {
	f := wantLine(t, newForth("5|6"), lineCase{": a 1 if", 0, "5|6", "", 0})
	for word, throw := range map[string]int{"zap": -13, "until": -22, ";": -22, ":": -14, "['] if": -24, "['] zap": -13, "[']": -13, "2 (": -22, "begin begin begin begin begin begin begin begin": -22, "thirteenbytes": -13} {
		wantThrown(t, f, word, throw)
		got, _ := evalLine(t, f, word)
		wantLine(t, got, lineCase{"a", -13, "", "", 0})
		wantLine(t, got, lineCase{"1 .", 0, "", "1 ", 1})
		wantLine(t, got, lineCase{"then ;", -14, "", "", 0})
	}
}

func TestCaughtThrowsInALine(t *testing.T) {
	for _, v := range []lineCase{
		{"' / catch 9", 0, "5 -4 9|6", "", 2},
		{"1 0 ' / catch 9", 0, "5 1 0 -10 9|6", "", 2},
		{"7 ' throw catch 9", 0, "5 7 7 9|6", "", 2},
		{": a 1 2 3 7 throw ; ' a catch .", 0, "5|6", "7 ", 8},
		{": a 65 emit 1 >r 7 throw ; ' a catch", 0, "5 7|6", "A", 8},
		{"' hread catch", 0, "5 -100|6", "", 2},
		{"' exit catch", 0, "5 -14|6", "", 2},
		{"' dup catch", 0, "5 5 0|6", "", 2},
		{": a begin 0 until ; ' a catch 9", -101, "", "", 4000},
		{"0 throw 9", 0, "5 9|6", "", 1},
	} {
		wantLine(t, newForth("5|6"), v)
	}
}

// TestFuelEndsWithinALine gives a line every fuel up to more than it needs.
func TestFuelEndsWithinALine(t *testing.T) {
	const line = "1 2 + . variable v : sq dup * ; 3 sq v ! v @ . 7 constant c c"
	whole, report := evalLine(t, newForth("5"), line)
	used := maxFuel - report.Fuel
	for fuel := range used + 3 {
		f := newForth("5")
		f.Machine.Fuel = fuel
		got, part := evalLine(t, f, line)
		switch {
		case fuel < used && (part.Throw != -101 || part.Fuel != 0 || len(part.Stack) > 0 || !strings.HasPrefix(report.Said, part.Said)):
			t.Errorf("with fuel %d the line has the report %v", fuel, part)
		case fuel >= used && (part.Throw != 0 || part.Fuel != fuel-used || part.Said != report.Said || fmt.Sprint(part.Stack) != fmt.Sprint(report.Stack)):
			t.Errorf("with fuel %d the line has the report %v", fuel, part)
		}
		if words := len(got.Machine.Words); words > len(whole.Machine.Words) || fuel >= 2 && words < kernelSize+2 {
			t.Errorf("with fuel %d the line leaves %d words", fuel, words)
		}
	}
}

// TestLinesWithoutFuel do all that is no run of a token.
func TestLinesWithoutFuel(t *testing.T) {
	f := newForth("5|6")
	f.Machine.Fuel = 0
	for _, v := range []lineCase{
		{"1 2", 0, "5 1 2|6", "", 0},
		{"' dup", 0, "5 1|6", "", 0},
		{"variable v 1 constant c : a v c a0 if then ;", -13, "", "", 0},
		{"variable v 1 constant c : a v c if then ; 2", 0, "5 2|6", "", 0},
		{"1 dup 2", -101, "", "", 0},
		{"exit", -101, "", "", 0},
		{"variable v v", -101, "", "", 0},
		{"hread", -101, "", "", 0},
		{": a ; a", -101, "", "", 0},
		{"", 0, "5|6", "", 0},
	} {
		wantLine(t, f, v)
	}
}

// TestIpBehindLines is 0 behind a throw of a run only.
func TestIpBehindLines(t *testing.T) {
	for _, ip := range []int{0, 1, startIp, maxCell} {
		for line, want := range map[string]int{"": ip, "1 dup": ip, ": a dup ; 1 a": ip, "zap": ip, "' if": ip, "( a": ip, "drop drop": 0, "dup zap": ip, "7 throw": 0, "' / catch": ip} {
			f := newForth("5")
			f.Machine.Ip = ip
			got, _ := evalLine(t, f, line)
			if got.Machine.Ip != want {
				t.Errorf("the line %q from %d ends at %d", line, ip, got.Machine.Ip)
			}
		}
	}
}
