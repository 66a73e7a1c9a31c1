package tests

// Promise 1 for the sessions: the calls that tests/calls_test.go makes of
// their functions.

import (
	"fmt"
	"slices"
	"strings"

	"loop.example/g00787/impl"
)

func callsOfActs() []call {
	var list []call
	for i, a := range append(validActs(), badActs()...) {
		list = append(list, call{fmt.Sprint("ActOK ", i), func() outcome { return outcome{yes: impl.ActOK(a)} }})
	}
	long := eval(strings.Repeat("x", impl.MaxText+1))
	for i, f := range someForths() {
		for k, a := range append(memoryActs(), grant(-1), answer(maxInt), long) {
			list = append(list, call{fmt.Sprint("DoAct ", i, k), func() outcome {
				next, report, code := impl.DoAct(f, a)
				return outcome{text: forthText(next) + reportsText(report), code: code}
			}})
		}
	}
	return list
}

func callsOfSessions() []call {
	var list []call
	sessions := append(someSessions(), []impl.Act{{}}, []impl.Act{eval("zap"), {Kind: 7}})
	for _, size := range []int{maxActs, maxActs + 1, impl.MaxList, impl.MaxList + 1} {
		sessions = append(sessions, slices.Repeat([]impl.Act{grant(2)}, size), make([]impl.Act, size), slices.Repeat([]impl.Act{eval("1")}, size))
	}
	for i, acts := range sessions {
		list = append(list, call{fmt.Sprint("RunActs ", i), func() outcome {
			f, reports, code := impl.RunActs(acts)
			return outcome{text: forthText(f) + reportsText(reports...), code: code}
		}})
		for _, place := range append(someNumbers(), len(acts)-1, len(acts), len(acts)+1) {
			list = append(list, call{fmt.Sprint("GrantsAt ", i, place), func() outcome {
				granted, code := impl.GrantsAt(acts, place)
				return outcome{text: flagsText(granted), code: code}
			}})
		}
	}
	return list
}

func callsOfReports() []call {
	var list []call
	reports := append(someReports(), impl.Report{Stack: make([]int, impl.MaxList+1)})
	for i, a := range reports {
		for k, b := range reports {
			list = append(list, call{fmt.Sprint("SameReport ", i, k), func() outcome { return outcome{yes: impl.SameReport(a, b)} }})
		}
	}
	return list
}

// flagsText makes no difference between an empty list and nil.
func flagsText(list []bool) string {
	if len(list) == 0 {
		return ""
	}
	return fmt.Sprint(list)
}
