package tests

// Promise 8, the code as text: CodeLines shows compiled code, and refuses what
// is no code at the first place where it is none.

import (
	"fmt"
	"slices"
	"strconv"
	"strings"
	"testing"

	"loop.example/g00787/impl"
)

func wantLines(t *testing.T, words []impl.Word, code []int, at int, want []string, wantCode int) {
	t.Helper()
	if lines, c := impl.CodeLines(words, code, at); c != wantCode || !slices.Equal(lines, want) {
		t.Errorf("CodeLines of %v at %d = %q, %d, not %q, %d", code, at, lines, c, want, wantCode)
	}
}

// isOperand has, for each cell, whether it is the operand of the one before.
func isOperand(code []int) []bool {
	list := make([]bool, len(code))
	for i := 1; i < len(code); i++ {
		list[i] = !list[i-1] && slices.Contains([]int{57, 58, 59, 61, 62}, code[i-1])
	}
	return list
}

// linesOf expects code that can be shown.
func linesOf(words []impl.Word, code []int, at int) []string {
	var lines []string
	for i, operand := range isOperand(code[at:]) {
		switch {
		case operand:
			lines[len(lines)-1] += " " + strconv.Itoa(code[at+i])
		case len(lines) > 0 && strings.HasSuffix(lines[len(lines)-1], " EXIT"):
			return lines
		default:
			lines = append(lines, fmt.Sprint(at+i)+" "+words[code[at+i]-1].Name)
		}
	}
	return lines
}

func TestLinesOfEachWord(t *testing.T) {
	words := dictOf(maxUser)
	for number, x := range words {
		code := []int{number + 1, 53, 53}
		switch {
		case x.Name == "EXIT":
			wantLines(t, words, code, 0, []string{"0 EXIT"}, impl.OK)
		case number+1 >= 57 && number+1 <= 62 && number+1 != 60:
			wantLines(t, words, code, 0, []string{"0 " + x.Name + " 53", "2 EXIT"}, impl.OK)
		default:
			wantLines(t, words, code, 0, []string{"0 " + x.Name, "1 EXIT"}, impl.OK)
		}
	}
}

// TestLinesOfScriptWordsWithKernelNames has words with the names of EXIT and of
// inner words, which neither end the code nor have operands.
func TestLinesOfScriptWordsWithKernelNames(t *testing.T) {
	words := kernelWords()
	for _, name := range []string{"EXIT", "(LIT)", "(DO)", "exit", "Exit"} {
		words = append(words, impl.Word{Name: name, Kind: impl.WdConst, Value: 53})
	}
	want := []string{"0 EXIT", "1 (LIT)", "2 (DO)", "3 exit", "4 Exit", "5 (LIT) 84", "7 EXIT"}
	wantLines(t, words, []int{84, 85, 86, 87, 88, 57, 84, 53}, 0, want, impl.OK)
	wantLines(t, words, []int{84, 85, 86, 87, 88}, 0, nil, impl.ErrSize)
	wantLines(t, words, []int{85, 0, 53}, 0, nil, impl.ErrToken)
}

func TestLinesOfOperands(t *testing.T) {
	for _, name := range []int{57, 58, 59, 61, 62} {
		for _, n := range append(notCells(), minCell, -400, -1, 0, 53, 57, 60, 84, 104, maxCell) {
			want := []string{"0 " + kernelWords()[name-1].Name + " " + strconv.Itoa(n), "2 EXIT"}
			wantLines(t, kernelWords(), []int{name, n, 53}, 0, want, impl.OK)
		}
	}
}

// readable has a primitive in place of each word that would end the code or take
// the next cell as its operand.
func readable(list []impl.Item) []impl.Item {
	list = slices.Clone(list)
	for i, x := range list {
		if x.Kind == 1 && x.Value >= 53 && x.Value <= 62 {
			list[i].Value -= 52
		}
	}
	return list
}

func TestLinesOfCompiledCode(t *testing.T) {
	words := dictOf(maxUser)
	p := &picker{state: 11}
	for size := range maxItems + 1 {
		at := p.below(maxCode - 2*maxItems)
		compiled, code := impl.CompileItems(readable(pickList(p, size)), at, kernelSize+1+p.below(maxUser))
		if code != impl.OK {
			t.Fatal(code)
		}
		// Neither what is before the code nor what is behind it matters.
		before := slices.Repeat([]int{0}, at)
		whole := slices.Concat(before, compiled, []int{57})
		for place, operand := range isOperand(compiled) {
			if !operand {
				wantLines(t, words, whole, at+place, linesOf(words, slices.Concat(before, compiled), at+place), impl.OK)
			}
		}
		wantLines(t, words, whole, at+len(compiled), nil, impl.ErrSize)
		wantLines(t, words, compiled, len(compiled), nil, impl.ErrSize)
		wantLines(t, words, compiled[:len(compiled)-1], 0, nil, impl.ErrSize)
	}
}

// TestLinesOfWordsThatReadOn has items that are compiled to words which the
// compiler itself uses too.
func TestLinesOfWordsThatReadOn(t *testing.T) {
	for text, want := range map[string][]string{
		"w1 w53 w2":     {"0 DUP", "1 EXIT"},
		"w57 w2":        {"0 (LIT) 2", "2 EXIT"},
		"w58 w53":       {"0 (BRANCH) 53", "2 EXIT"},
		"w60 w61 5":     {"0 (DO)", "1 (LOOP) 57", "3 ROT", "4 EXIT"},
		"w62 w62 w1 w1": {"0 (+LOOP) 62", "2 DUP", "3 DUP", "4 EXIT"},
	} {
		code, _ := impl.CompileItems(itemsOf(text+" w53"), 0, 84)
		wantLines(t, kernelWords(), code, 0, want, impl.OK)
	}
	code, _ := impl.CompileItems(itemsOf("w57"), 0, 84)
	wantLines(t, kernelWords(), code, 0, nil, impl.ErrSize)
}

func TestLinesFromTheMiddle(t *testing.T) {
	code, _ := impl.CompileItems(itemsOf("5 IF w1 ELSE 53 THEN BEGIN RECURSE WHILE DO 6 +LOOP REPEAT"), 0, 84)
	words := append(kernelWords(), impl.Word{Name: "Self", Kind: impl.WdColon})
	all := []string{"0 (LIT) 5", "2 (0BRANCH) 7", "4 DUP", "5 (BRANCH) 9", "7 (LIT) 53", "9 Self", "10 (0BRANCH) 19", "12 (DO)", "13 (LIT) 6", "15 (+LOOP) 13", "17 (BRANCH) 9", "19 EXIT"}
	wantLines(t, words, code, 0, all, impl.OK)
	for i, line := range all {
		at := numberOf(strings.Fields(line)[0])
		wantLines(t, words, code, at, all[i:], impl.OK)
	}
	// An operand is shown as a word if the code is read from it on.
	wantLines(t, words, code, 1, append([]string{"1 ROT"}, all[1:]...), impl.OK)
	wantLines(t, words, code, 8, []string{"8 EXIT"}, impl.OK)
	wantLines(t, words, code, 18, []string{"18 2DUP", "19 EXIT"}, impl.OK)
	wantLines(t, kernelWords(), code, 0, nil, impl.ErrToken)
	wantLines(t, kernelWords(), code, 10, all[6:], impl.OK)
}

func TestAddressesOfLines(t *testing.T) {
	for _, code := range [][]int{nil, {53}, {1, 53}, {0}, {57}} {
		for _, at := range []int{minInt, minCell, -2, -1, len(code) + 1, len(code) + 2, maxCell, 1 << 32, maxInt} {
			wantLines(t, kernelWords(), code, at, nil, impl.ErrRange)
		}
		wantLines(t, kernelWords(), code, len(code), nil, impl.ErrSize)
	}
}

func TestCellsThatAreNoWords(t *testing.T) {
	for _, size := range []int{0, 1, maxUser} {
		words := dictOf(size)
		for _, n := range []int{minInt, minCell, -53, -1, 0, len(words) + 1, wordNumbers + 1, maxCell, 1 << 32, 1<<32 + 53, maxInt} {
			for _, code := range [][]int{{n}, {n, 53}, {1, n, 53}, {57, 5, n, 53}, {60, n, 53}, {57, n, n, 53}, {1, 2, 3, n}} {
				wantLines(t, words, code, 0, nil, impl.ErrToken)
			}
			// Behind the end nothing matters, and before the beginning neither.
			wantLines(t, words, []int{n, 1, 53, n}, 1, []string{"1 DUP", "2 EXIT"}, impl.OK)
			wantLines(t, words, []int{n, 57, n, 53, n}, 1, []string{"1 (LIT) " + strconv.Itoa(n), "3 EXIT"}, impl.OK)
		}
		wantLines(t, words, []int{len(words), 53}, 0, linesOf(words, []int{len(words), 53}, 0), impl.OK)
	}
}

func TestCodeThatEndsTooEarly(t *testing.T) {
	for number := 1; number <= kernelSize; number++ {
		if number == 53 {
			continue
		}
		wantLines(t, kernelWords(), []int{number}, 0, nil, impl.ErrSize)
		wantLines(t, kernelWords(), []int{1, number}, 0, nil, impl.ErrSize)
		wantLines(t, kernelWords(), []int{53, number}, 1, nil, impl.ErrSize)
	}
	for _, inner := range []int{57, 58, 59, 61, 62} {
		wantLines(t, kernelWords(), []int{inner, 53}, 0, nil, impl.ErrSize)
		wantLines(t, kernelWords(), []int{inner, inner, inner}, 0, nil, impl.ErrSize)
	}
}

// TestFirstOfTwoErrorsInCode has code with both errors: the one that comes
// first in the code counts.
func TestFirstOfTwoErrorsInCode(t *testing.T) {
	for _, v := range []struct {
		code []int
		want int
	}{
		{[]int{0}, impl.ErrToken}, {[]int{0, 57}, impl.ErrToken}, {[]int{1, 84, 57}, impl.ErrToken}, {[]int{1, 57}, impl.ErrSize}, {[]int{57, 0}, impl.ErrSize},
		{[]int{57, 0, 0}, impl.ErrToken}, {[]int{57, 0, 57}, impl.ErrSize}, {[]int{1, 2, -1}, impl.ErrToken}, {[]int{1, 57, 0, 58}, impl.ErrSize}, {[]int{1, 2, 3}, impl.ErrSize},
	} {
		wantLines(t, kernelWords(), v.code, 0, nil, v.want)
	}
}

func TestLinesWithoutADictionary(t *testing.T) {
	for _, words := range badDicts() {
		for _, code := range [][]int{nil, {1, 53}, {0}, {57}, make([]int, impl.MaxList)} {
			for _, at := range []int{minInt, -1, 0, len(code), len(code) + 1, maxInt} {
				wantLines(t, words, code, at, nil, impl.ErrBad)
			}
		}
	}
}

func TestLinesUpToMaxList(t *testing.T) {
	for _, size := range []int{maxCode, maxCode + 1, impl.MaxList} {
		code := append(slices.Repeat([]int{2}, size-1), 53)
		wantLines(t, kernelWords(), code, 0, linesOf(kernelWords(), code, 0), impl.OK)
		wantLines(t, kernelWords(), code, size-1, []string{strconv.Itoa(size-1) + " EXIT"}, impl.OK)
		wantLines(t, kernelWords(), code[:size-1], 0, nil, impl.ErrSize)
	}
	for _, at := range []int{minInt, -1, 0, impl.MaxList + 2, maxInt} {
		for _, words := range [][]impl.Word{nil, kernelWords(), dictOf(impl.MaxList), make([]impl.Word, impl.MaxList)} {
			wantLines(t, words, make([]int, impl.MaxList+1), at, nil, impl.ErrLong)
			wantLines(t, words, slices.Repeat([]int{53}, impl.MaxList+1), at, nil, impl.ErrLong)
		}
		for _, code := range [][]int{nil, {53}, {0}, make([]int, impl.MaxList+1)} {
			wantLines(t, make([]impl.Word, impl.MaxList+1), code, at, nil, impl.ErrLong)
			wantLines(t, dictOf(impl.MaxList), code, at, nil, impl.ErrLong)
		}
		wantLines(t, make([]impl.Word, impl.MaxList), []int{53}, at, nil, impl.ErrBad)
	}
}
