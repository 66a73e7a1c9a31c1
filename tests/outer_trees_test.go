package tests

// Promise 14: a word that a line has compiled has the same effect by its code
// and by its tree, at every fuel from none to more than it takes.

import (
	"fmt"
	"testing"

	"loop.example/g00787/impl"
)

// scriptLines are scripts that together have every structure and every way to
// append an item.
func scriptLines() [][]string {
	return [][]string{
		{": sq dup * ;", ": quad sq sq ;"},
		{": fact dup 2 < if drop 1 exit then dup 1- recurse * ;"},
		{": sign dup 0< if drop -1 else 0= if 0 else 1 then then ;", ": both sign swap sign ;"},
		{": count begin 1- dup 0= until drop ;", ": down begin dup while dup . 1- repeat drop ;"},
		{": stars 0 do 42 emit loop cr ;", ": odds 0 do i . 2 +loop ;", ": back 0 swap do i -1 +loop ;"},
		{": grid 3 0 do 2 0 do i loop loop ;", ": leave 9 0 do i 4 = if unloop exit then loop ;"},
		{"variable v 7 v !", "3 constant c", ": add v @ c + v ! v @ ;", ": next v 1 over +! @ ;"},
		{": safe ['] / catch ;", ": twice ['] safe catch ;", ": fail 1 2 3 77 throw ;", ": hold ['] fail catch drop ;"},
		{": deep 1+ recurse ;", ": caught ['] deep catch ;"},
		{": a 1 ;", ": b a a ;", ": a 2 b ;", ": b a b ;"},
		{": open", "dup if", "1 else ( a comment )", "2 then", ";", ": open open open ;"},
		{"hex : sixteen 10 ff + ;", "decimal : ten 10 ;", ": say base16 ;", ": say hex 255 . decimal ;"},
		{": hold >r r@ r> ;", ": lose >r ;", ": steal r> ;", ": over? 1 >r ['] lose catch r> ;"},
		{": ask htime 3 hread hwrite ;", ": try ['] ask catch ;"},
		{": mem here 5 , 4 allot here swap - ;", ": give -4 allot ;"},
		{": none ;", ": nothing none none ;", ": endless begin again ;", ": endless begin 0 until ;"},
		{": if 42 ;", ": x if if ;", ": then x ;"},
		{": all begin 1 while 0 if else 5 then do loop repeat ;"},
	}
}

func compiledForth(t *testing.T, lines []string) impl.Forth {
	t.Helper()
	f := newForth("")
	f.Machine.Host = hostOf(3, 5, 0, 1, 3)
	for _, line := range lines {
		f, _ = evalLine(t, f, line)
	}
	return f
}

func TestCompiledWordsByTheirTrees(t *testing.T) {
	for i, lines := range scriptLines() {
		f := compiledForth(t, lines)
		if len(f.Defs) == 0 {
			t.Errorf("script %d defines nothing", i)
		}
		for _, x := range f.Defs {
			for _, stacks := range []string{"", "5", "0", "3 0", "7 2|6", "1 0 0", "2 1 0 5|1 2", ofCells(31), ofCells(32) + "|" + ofCells(32)} {
				m := clonedMachine(f.Machine)
				m.Data.Stack, m.Data.Back = stacksOf(stacks)
				checkFuel(t, fmt.Sprint("script ", i, " on ", stacks), m, f.Defs, x.Word)
			}
		}
	}
}

// TestCompiledWordsInALine compares the line of a word with its tree.
func TestCompiledWordsInALine(t *testing.T) {
	for _, lines := range scriptLines() {
		f := compiledForth(t, lines)
		for _, x := range f.Machine.Words[kernelSize:] {
			for _, stacks := range []string{"", "5", "3 0", "7 2|6"} {
				f.Machine.Data.Stack, f.Machine.Data.Back = stacksOf(stacks)
				want, throw, _ := impl.RunTree(f.Machine, f.Defs, lastOf(f.Machine.Words, x.Name))
				got, report := evalLine(t, f, x.Name)
				said := want.Data.Out
				want.Data.Out = ""
				if throw != 0 {
					want.Data.Stack, want.Data.Back = nil, nil
				}
				if report.Throw != throw || report.Said != said || !equalMachines(got.Machine, want) {
					t.Errorf("%s on %s leaves %s and throws %d, but its tree leaves %s and throws %d", x.Name, stacks, machineText(got.Machine), report.Throw, machineText(want), throw)
				}
			}
		}
	}
}

// TestCompiledWordsUpToTheLimits has definitions of MaxItems items, and a full
// dictionary.
func TestCompiledWordsUpToTheLimits(t *testing.T) {
	f := newForth("")
	for i := range maxUser {
		line := ": a 1 drop dup if drop 1 else 1 then ;"
		if i%3 == 1 {
			line = ": b 2 0 do 3 0 do i drop loop loop a a ;"
		}
		next, report := evalLine(t, f, line)
		if report.Throw != 0 {
			t.Fatalf("the definition %d throws %d", i, report.Throw)
		}
		f = next
	}
	for _, x := range f.Defs {
		m := clonedMachine(f.Machine)
		m.Data.Stack = []int{5, 0}
		checkFuel(t, fmt.Sprint("word ", x.Word), m, f.Defs, x.Word)
	}
	sixty := append(sourceItems("DUP IF 5 ELSE 6 THEN 3 0 DO I LOOP BEGIN DROP DUP 5 > WHILE REPEAT 9 1 BEGIN UNTIL"), sourceItems("DUP DROP DUP DROP DUP DROP DUP DROP DUP DROP DUP DROP DUP DROP DUP DROP")...)
	for len(sixty) < maxItems {
		sixty = append(sixty, sourceItems("DECIMAL")...)
	}
	g := wantDefined(t, compiling(newForth(""), sixty), ";", "name", sixty)
	g.Machine.Data.Stack = []int{1, 2, 3, 4, 5, 6}
	checkFuel(t, "sixty items", g.Machine, g.Defs, 84)
}
