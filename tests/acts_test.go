package tests

// Promise 15, the actions: which ones are valid.

import (
	"slices"
	"strings"
	"testing"

	"loop.example/g00787/impl"
)

// numbersOfActs has the least and the greatest number of each kind.
func numbersOfActs() map[int][2]int {
	return map[int][2]int{
		1: {0, 3},
		2: {0, 3},
		3: {1, 4000},
		4: {minCell, maxCell},
		5: {1, 1000},
		6: {0, 0},
	}
}

func notKinds() []int {
	return []int{minInt, minCell, -6, -1, 0, 7, 8, 40, 256 + 1, maxCell, 1<<32 + 6, maxInt}
}

func notEmptyLines() []string {
	return []string{" ", "x", "1 dup", "\x00", "(", "é", strings.Repeat("x", maxLine), strings.Repeat("x", maxLine+1), strings.Repeat(" ", impl.MaxText+1)}
}

// lineTexts are lines for an action, whether they can be interpreted or not.
func lineTexts() []string {
	return append(notEmptyLines()[:7], "", "( a", ": a", "zap", "\n", "\xff\xfe", strings.Repeat(" ", maxLine), strings.Repeat("x ", maxLine/2), strings.Repeat("é", maxLine/2), strings.Repeat("\x00", maxLine-1))
}

func longLines() []string {
	var list []string
	for _, size := range []int{maxLine + 1, maxLine + 2, 2 * maxLine, impl.MaxText, impl.MaxText + 1, 2 * impl.MaxText} {
		for _, text := range []string{" ", "x", "1 ", "é", "\x00"} {
			list = append(list, strings.Repeat(text, size)[:size])
		}
	}
	return list
}

func validActs() []impl.Act {
	var list []impl.Act
	for kind := acGrant; kind < acEval; kind++ {
		ends := numbersOfActs()[kind]
		for _, n := range []int{ends[0], ends[0] + 1, (ends[0] + ends[1]) / 2, ends[1] - 1, ends[1]} {
			list = append(list, impl.Act{Kind: kind, N: n})
		}
	}
	for _, n := range []int{-1, 0, 1} {
		list = append(list, answer(n))
	}
	for _, line := range lineTexts() {
		list = append(list, eval(line))
	}
	return list
}

// badActs are valid but for one field.
func badActs() []impl.Act {
	var list []impl.Act
	for kind, ends := range numbersOfActs() {
		for _, n := range []int{ends[0] - 1, ends[1] + 1, ends[0] - 2, ends[1] + 2, minInt, maxInt, ends[0] - 1<<32, ends[1] + 1<<32} {
			list = append(list, impl.Act{Kind: kind, N: n})
		}
	}
	for _, a := range validActs() {
		if !isEval(a) {
			for _, line := range notEmptyLines() {
				list = append(list, impl.Act{Kind: a.Kind, N: a.N, Line: line})
			}
			continue
		}
		for _, n := range []int{-1, 1, 5, minInt, maxInt, 1 << 32} {
			list = append(list, impl.Act{Kind: acEval, N: n, Line: a.Line})
		}
	}
	for _, line := range longLines() {
		list = append(list, eval(line))
	}
	for _, kind := range notKinds() {
		for _, n := range []int{minInt, -1, 0, 1, 2, maxInt} {
			list = append(list, impl.Act{Kind: kind, N: n}, impl.Act{Kind: kind, N: n, Line: "1"}, impl.Act{Kind: kind, N: n, Line: strings.Repeat("x", maxLine+1)})
		}
	}
	return list
}

// someActs has an action of each kind.
func someActs() []impl.Act {
	return []impl.Act{grant(2), revoke(1), refuel(50), answer(-7), tick(30), eval("1 2 + .")}
}

func TestNumbersOfKinds(t *testing.T) {
	kinds := []int{impl.AcGrant, impl.AcRevoke, impl.AcRefuel, impl.AcAnswer, impl.AcTick, impl.AcEval}
	if !slices.Equal(kinds, []int{1, 2, 3, 4, 5, 6}) || impl.MaxActs != maxActs {
		t.Errorf("the kinds are %v, and there are at most %d actions", kinds, impl.MaxActs)
	}
}

func TestActOK(t *testing.T) {
	for _, a := range append(validActs(), someActs()...) {
		if !impl.ActOK(a) {
			t.Errorf("the action %v is refused", a)
		}
	}
	for _, a := range badActs() {
		if impl.ActOK(a) {
			t.Errorf("the action %.99v is accepted", a)
		}
	}
}

// TestActOKOfEveryNumber reads the table of chapter 12 once more.
func TestActOKOfEveryNumber(t *testing.T) {
	for kind := -10; kind <= 10; kind++ {
		ends, known := numbersOfActs()[kind]
		for n := -20; n <= 4100; n++ {
			want := known && n >= ends[0] && n <= ends[1]
			if got := impl.ActOK(impl.Act{Kind: kind, N: n}); got != want {
				t.Errorf("ActOK of kind %d with the number %d is %v", kind, n, got)
			}
			if got := impl.ActOK(impl.Act{Kind: kind, N: n, Line: "x"}); got != (kind == acEval && n == 0) {
				t.Errorf("ActOK of kind %d with the number %d and a line is %v", kind, n, got)
			}
		}
	}
}

func TestActOKOfEveryLength(t *testing.T) {
	for size := range 2*maxLine + 1 {
		line := strings.Repeat("x", size)
		if got := impl.ActOK(eval(line)); got != (size <= maxLine) {
			t.Errorf("ActOK of a line of %d bytes is %v", size, got)
		}
		for kind := acGrant; kind < acEval; kind++ {
			if got := impl.ActOK(impl.Act{Kind: kind, N: 1, Line: line}); got != (size == 0) {
				t.Errorf("ActOK of kind %d with a line of %d bytes is %v", kind, size, got)
			}
		}
	}
}
