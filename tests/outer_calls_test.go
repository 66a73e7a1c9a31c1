package tests

// Promise 1 for the outer interpreter: the calls that tests/calls_test.go makes
// of its functions.

import (
	"fmt"
	"slices"
	"strings"

	"loop.example/g00787/impl"
)

func someForths() []impl.Forth {
	return slices.Concat(memoryForths(), invalidForths(), otherForths(), []impl.Forth{withWords(newForth("5"), maxUser), withCellsAllotted(newForth("5"), maxCells)})
}

func callsOfForths() []call {
	list := []call{{"NewForth", func() outcome { return outcome{text: forthText(impl.NewForth())} }}}
	forths := someForths()
	for i, f := range forths {
		list = append(list, call{fmt.Sprint("ForthOK ", i), func() outcome { return outcome{yes: impl.ForthOK(f)} }})
		for k, other := range forths[:min(i+2, 12)] {
			list = append(list, call{fmt.Sprint("SameForth ", i, k), func() outcome { return outcome{yes: impl.SameForth(f, other)} }})
		}
		for k, text := range slices.Concat(someLines(), memoryLines(), memoryWords()) {
			list = append(list,
				call{fmt.Sprint("EvalWord ", i, k), func() outcome {
					next, throw, code := impl.EvalWord(f, text)
					return outcome{throw: throw, text: forthText(next), code: code}
				}},
				call{fmt.Sprint("EvalLine ", i, k), func() outcome {
					next, report, code := impl.EvalLine(f, text)
					return outcome{text: forthText(next) + reportsText(report), code: code}
				}},
			)
		}
		list = append(list, callsOfSeveralLines(i, f)...)
	}
	return list
}

func callsOfSeveralLines(i int, f impl.Forth) []call {
	var list []call
	long := strings.Repeat("x", maxLine+1)
	for k, lines := range [][]string{nil, {}, {""}, memoryLines(), memoryWords(), make([]string, maxItems), make([]string, maxItems+1), {"1", long}, {strings.Repeat("x", impl.MaxText+1)}, make([]string, impl.MaxList), make([]string, impl.MaxList+1), append(make([]string, maxItems), long)} {
		list = append(list, call{fmt.Sprint("EvalLines ", i, k), func() outcome {
			next, reports, code := impl.EvalLines(f, lines)
			return outcome{text: forthText(next) + reportsText(reports...), code: code}
		}})
	}
	return list
}

// reportsText is empty for no reports and for a zero one.
func reportsText(reports ...impl.Report) string {
	if len(reports) == 0 || len(reports) == 1 && isZeroReport(reports[0]) {
		return ""
	}
	var parts []string
	for _, r := range reports {
		parts = append(parts, fmt.Sprintf("%d %d %q %s %v", r.Throw, r.Fuel, r.Said, cellsText(r.Stack), r.Compiling))
	}
	return strings.Join(parts, "; ")
}
