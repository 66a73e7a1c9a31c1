package tests

// Promise 1: no function panics or depends on earlier calls, equal arguments
// yield equal results, and beside a code other than 0 there are zero values.

import (
	"fmt"
	"slices"
	"strings"
	"testing"

	"loop.example/g00787/impl"
)

// outcome has room for the results of any function of chapters 1 and 2.
type outcome struct {
	number  int
	text    string
	yes     bool
	code    int
	problem string
}

type call struct {
	name string
	run  func() outcome
}

func (c call) outcome() (o outcome) {
	defer func() {
		if p := recover(); p != nil {
			o = outcome{problem: fmt.Sprint(p)}
		}
	}()
	return c.run()
}

func someNumbers() []int {
	return append(notCells(), minCell, -33, -32, -31, -2, -1, 0, 1, 2, 10, 16, 17, 19, 31, 32, 33, maxCell)
}

func someTexts() []string {
	return []string{"", "-", "--", "0", "-0", "7", "007", "-FF", "ff", "+1", "a_9", "9a", "ok", "same", "é", "\x00", "\xff\xfe", strings.Repeat("1", 32), strings.Repeat("1", 33), strings.Repeat("z", impl.MaxText), strings.Repeat("1", impl.MaxText+1)}
}

func stageOneCalls() []call {
	return slices.Concat(callsOfNumbers(), callsOfTexts(), callsOfTwoCells())
}

func callsOfNumbers() []call {
	var list []call
	for _, n := range someNumbers() {
		list = append(list,
			call{fmt.Sprint("CodeWord ", n), func() outcome { return outcome{text: impl.CodeWord(n)} }},
			call{fmt.Sprint("WrapCell ", n), func() outcome { return outcome{number: impl.WrapCell(n)} }},
			call{fmt.Sprint("CellOK ", n), func() outcome { return outcome{yes: impl.CellOK(n)} }},
			call{fmt.Sprint("Unsigned ", n), func() outcome {
				number, code := impl.Unsigned(n)
				return outcome{number: number, code: code}
			}},
		)
		for _, base := range someNumbers() {
			list = append(list, call{fmt.Sprint("CellText ", n, base), func() outcome {
				text, code := impl.CellText(n, base)
				return outcome{text: text, code: code}
			}})
		}
	}
	return list
}

func callsOfTexts() []call {
	var list []call
	for i, text := range someTexts() {
		list = append(list,
			call{fmt.Sprint("NameOK ", i), func() outcome { return outcome{yes: impl.NameOK(text)} }},
			call{fmt.Sprint("CodeOf ", i), func() outcome { return outcome{number: impl.CodeOf(text)} }},
		)
		for _, base := range someNumbers() {
			list = append(list, call{fmt.Sprint("ReadCell ", i, base), func() outcome {
				number, code := impl.ReadCell(text, base)
				return outcome{number: number, code: code}
			}})
		}
	}
	return list
}

func callsOfTwoCells() []call {
	var list []call
	for _, op := range append(someNumbers(), 3, 4, 5, 6, 7, 8, 9, 11) {
		for _, a := range someNumbers() {
			for _, b := range someNumbers() {
				list = append(list, call{fmt.Sprint("TwoCells ", op, a, b), func() outcome {
					number, ok, code := impl.TwoCells(op, a, b)
					return outcome{number: number, yes: ok, code: code}
				}})
			}
		}
	}
	return list
}

func TestNoCallPanics(t *testing.T) {
	for _, c := range stageOneCalls() {
		if o := c.outcome(); o.problem != "" {
			t.Errorf("%s panics: %s", c.name, o.problem)
		}
	}
}

func TestZeroValuesBesideCodes(t *testing.T) {
	for _, c := range stageOneCalls() {
		if o := c.outcome(); o.code != impl.OK && (o.number != 0 || o.text != "" || o.yes) {
			t.Errorf("%s has results beside the code %d", c.name, o.code)
		}
	}
}

func TestEqualArgumentsYieldEqualResults(t *testing.T) {
	list := stageOneCalls()
	first := make([]outcome, len(list))
	for i, c := range list {
		first[i] = c.outcome()
	}
	for i, c := range slices.Backward(list) {
		if o := c.outcome(); o != first[i] {
			t.Errorf("%s depends on earlier calls: %v, then %v", c.name, first[i], o)
		}
	}
}
