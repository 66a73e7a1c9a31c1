package tests

// Promises 13 and 14 for scripts that nobody has chosen: whatever the lines
// are, they leave a valid Forth, and what the model and their words leave, and
// each word that they compile has the same effect by its code and by its tree.

import (
	"fmt"
	"strings"
	"testing"

	"loop.example/g00787/impl"
)

func pickName(p *picker) string {
	if p.below(12) == 0 {
		return []string{"dup", "if", ";", "12", "thirteenbytes", "(lit)", "'", ":", "é"}[p.below(9)]
	}
	return []string{"a", "b", "c", "d", "A", "sq", "ff", "Word"}[p.below(8)]
}

// pickWord has names of the kernel, of the script and of nobody, and numbers.
func pickWord(p *picker) string {
	names := kernelNames()
	switch p.below(9) {
	case 0, 1:
		return pickName(p)
	case 2, 3:
		return fmt.Sprint(pickCell(p))
	case 4:
		kind := p.below(len(names))
		return names[kind][p.below(len(names[kind]))]
	case 5:
		return strings.ToLower(names[4][p.below(len(names[4]))])
	case 6:
		return []string{"zap", "-", "1-1", "FF", "(", ")", `\`, "( x )", "\x00", "[']", "' dup"}[p.below(11)]
	}
	return strings.ToLower(names[0][p.below(len(names[0]))])
}

func pickWordsOfALine(p *picker, count int) string {
	var words []string
	for range count {
		words = append(words, pickWord(p))
	}
	return strings.Join(words, " ")
}

// pickSourceLine has mostly what a definition needs, so that it is not
// discarded at once.
func pickSourceLine(p *picker, depth int) string {
	inside := func() string {
		if depth == 0 {
			return ""
		}
		return pickSourceLine(p, depth-1)
	}
	var parts []string
	for range 1 + p.below(4) {
		part := pickWord(p)
		switch p.below(16) {
		case 0:
			part = fmt.Sprint(p.below(2), " if ", inside(), " then")
		case 1:
			part = fmt.Sprint("dup if ", inside(), " else ", inside(), " then")
		case 2:
			part = fmt.Sprint("begin ", inside(), " ", p.below(2), " until")
		case 3:
			part = fmt.Sprint("0 1 begin ", inside(), " while ", inside(), " repeat")
		case 4:
			part = fmt.Sprint(p.below(5), " 0 do i ", inside(), " loop")
		case 5:
			part = fmt.Sprint(p.below(5), " 0 do ", inside(), " ", p.below(5)-1, " +loop")
		case 6:
			part = "['] " + pickName(p) + " catch"
		case 7:
			part = fmt.Sprint(p.below(9), " throw")
		case 8, 9, 10:
			part = fmt.Sprint(p.below(9), " ", []string{"dup", "+", "drop", ".", "a", "b", "recurse", "exit", "swap", ">r r>"}[p.below(10)])
		case 11:
			part = strings.ToLower(kernelNames()[0][p.below(primCount)])
		}
		parts = append(parts, part)
	}
	return strings.Join(parts, " ")
}

func pickLine(p *picker) string {
	var line string
	switch p.below(10) {
	case 0:
		line = "variable " + pickName(p) + " " + pickWordsOfALine(p, p.below(4))
	case 1:
		line = fmt.Sprint(p.below(9), " constant ", pickName(p), " ", pickWordsOfALine(p, p.below(4)))
	case 2, 3:
		line = ": " + pickName(p) + " " + pickSourceLine(p, 2) + " ;"
	case 4:
		line = ": " + pickName(p) + " " + pickSourceLine(p, 1) + " ; " + pickName(p) + " " + pickName(p)
	case 5:
		line = pickSourceLine(p, 1)
	case 6:
		line = fmt.Sprint(p.below(6), " ", p.below(6), " ' ", pickName(p), " catch ", pickWordsOfALine(p, 2))
	default:
		line = pickWordsOfALine(p, p.below(12))
	}
	return line[:min(len(line), maxLine)]
}

// pickForth is new, or has something of everything.
func pickForth(p *picker) impl.Forth {
	f := impl.NewForth()
	if p.below(2) == 0 {
		f = closedForth("", someSources()[:p.below(5)]...)
		f.Machine.Data.Base = 2 + p.below(15)
		f = withWords(f, len(f.Machine.Words)-kernelSize+p.below(8))
		f = withCells(f, len(f.Machine.Code)+p.below(maxCode-len(f.Machine.Code))*p.below(2))
		f.Machine.Data.Out = strings.Repeat("o", maxOut-p.below(20)*p.below(16))
	}
	f.Machine.Data.Stack, f.Machine.Data.Back = pickCells(p, p.below(maxStack+1)*p.below(2)), pickCells(p, p.below(5))
	f.Machine.Host = hostOf(p.below(4), p.below(maxDeeds+1))
	for c := range capCount {
		f.Machine.Host.Granted[c] = p.below(3) > 0
	}
	return f
}

// TestRandomLines has scripts of several lines each, with fuel that often ends
// within one of them.
func TestRandomLines(t *testing.T) {
	p := &picker{state: 10}
	throws, defined := map[int]int{}, 0
	for range 900 {
		f := pickForth(p)
		for range 8 {
			f.Machine.Fuel = p.below(80) + p.below(60)*p.below(2)
			known := len(f.Defs)
			line := pickLine(p)
			next, report := evalLine(t, f, line)
			throws[report.Throw]++
			f = next
			for _, x := range f.Defs[known:] {
				defined++
				m := clonedMachine(f.Machine)
				m.Data.Stack = pickCells(p, p.below(6))
				checkTree(t, fmt.Sprintf("the line %q", line), m, f.Defs, x.Word)
			}
		}
		checkRandomLines(t, p)
		if t.Failed() {
			return
		}
	}
	for _, throw := range []int{0, -3, -4, -6, -8, -9, -10, -13, -14, -17, -22, -24, -25, -50, -100, -101} {
		if throws[throw] == 0 {
			t.Errorf("no line throws %d: %v", throw, throws)
		}
	}
	if defined < 500 {
		t.Errorf("only %d words are defined", defined)
	}
}

// checkRandomLines has several lines in one call.
func checkRandomLines(t *testing.T, p *picker) {
	t.Helper()
	f := pickForth(p)
	f.Machine.Fuel = p.below(200)
	var lines []string
	for range p.below(6) {
		lines = append(lines, pickLine(p))
	}
	evalLines(t, f, lines)
}

// TestRandomDefinitions has definitions whose items are not made to be run.
func TestRandomDefinitions(t *testing.T) {
	p := &picker{state: 11}
	f := newForth("")
	for i := range 120 {
		items := pickList(p, 1+p.below(30))
		var words []string
		for k, x := range items {
			if x.Kind == impl.ItWord {
				items[k].Value = pickToken(p, f.Machine.Words)
			}
			words = append(words, strings.ToLower(itemText(f.Machine.Words, items[k])))
		}
		name := fmt.Sprint("n", i)
		f = wantDefined(t, f, ": "+name+" "+strings.Join(words, " ")+" ;", name, items)
		last := f.Defs[len(f.Defs)-1]
		for _, stacks := range []string{"", "1 2 3|4", "0 0 0 0"} {
			m := clonedMachine(f.Machine)
			m.Data.Stack, m.Data.Back = stacksOf(stacks)
			checkFuel(t, fmt.Sprint("definition ", i), m, f.Defs, last.Word)
		}
		if len(f.Machine.Words) == wordNumbers || len(f.Machine.Code) > maxCode-70 {
			f = newForth("")
		}
	}
}

// itemText is a word with which a line appends the item.
func itemText(words []impl.Word, x impl.Item) string {
	switch x.Kind {
	case impl.ItWord:
		return words[x.Value-1].Name
	case impl.ItLit:
		return fmt.Sprint(x.Value)
	}
	return itemNames()[x.Kind-1]
}
