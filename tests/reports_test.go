package tests

// Promise 15, the reports: which two are the same.

import (
	"slices"
	"strings"
	"testing"

	"loop.example/g00787/impl"
)

// someReports differ from each other in one field at least, and the first one
// from the others in one.
func someReports() []impl.Report {
	list := []impl.Report{{Throw: -13, Fuel: 50, Said: "1 ", Stack: []int{5, 6}, Compiling: true}}
	turned := func(turn func(r *impl.Report)) {
		other := list[0]
		other.Stack = slices.Clone(other.Stack)
		turn(&other)
		list = append(list, other)
	}
	for _, n := range []int{minInt, -14, -12, 0, 13, maxInt} {
		turned(func(r *impl.Report) { r.Throw = n })
	}
	for _, n := range []int{minInt, -50, 0, 49, 51, maxFuel, maxInt} {
		turned(func(r *impl.Report) { r.Fuel = n })
	}
	for _, text := range []string{"", "1", " ", "1 2 ", "2 ", " 1", "1 \x00", strings.Repeat("1 ", impl.MaxText)} {
		turned(func(r *impl.Report) { r.Said = text })
	}
	for _, stack := range [][]int{nil, {5}, {6}, {6, 5}, {5, 7}, {4, 6}, {5, 6, 0}, {5, 6, 6}, {0, 5, 6}, {5, maxInt}, {minInt, 6}, filled(maxStack - 1), filled(maxStack)} {
		turned(func(r *impl.Report) { r.Stack = stack })
	}
	turned(func(r *impl.Report) { r.Compiling = false })
	return append(list, impl.Report{})
}

func TestSameReport(t *testing.T) {
	list := someReports()
	for i, a := range list {
		for k, b := range list {
			b.Stack, b.Said = slices.Clone(b.Stack), strings.Clone(b.Said)
			if got := impl.SameReport(a, b); got != (i == k) {
				t.Errorf("SameReport of %d and %d is %v: %.99v, %.99v", i, k, got, a, b)
			}
		}
	}
}

func TestSameReportTakesNilForEmpty(t *testing.T) {
	a, b := impl.Report{Fuel: 3}, impl.Report{Fuel: 3, Stack: []int{}}
	if !impl.SameReport(a, b) || !impl.SameReport(b, a) {
		t.Error("nil is not the same as an empty stack")
	}
}

// TestSameReportUpToMaxStack has long stacks that are equal, and others that
// are not.
func TestSameReportUpToMaxStack(t *testing.T) {
	for size := range 2*maxStack + 2 {
		r := impl.Report{Fuel: 3, Stack: filled(size)}
		if got := impl.SameReport(r, impl.Report{Fuel: 3, Stack: filled(size)}); got != (size <= maxStack) {
			t.Errorf("SameReport with %d cells in both is %v", size, got)
		}
		for _, other := range []int{size - 1, size + 1, maxStack, maxStack + 1} {
			if other < 0 || other == size {
				continue
			}
			s := impl.Report{Fuel: 3, Stack: filled(other)}
			if impl.SameReport(r, s) || impl.SameReport(s, r) {
				t.Errorf("SameReport with %d and %d cells is true", size, other)
			}
		}
		for place := range size {
			s := impl.Report{Fuel: 3, Stack: filled(size)}
			s.Stack[place]++
			if impl.SameReport(r, s) || impl.SameReport(s, r) {
				t.Errorf("SameReport with another cell %d of %d is true", place, size)
			}
		}
	}
	for _, size := range []int{maxStack + 1, impl.MaxList, impl.MaxList + 1} {
		long := impl.Report{Stack: make([]int, size)}
		if impl.SameReport(long, long) || impl.SameReport(long, impl.Report{}) || impl.SameReport(impl.Report{}, long) {
			t.Errorf("SameReport with %d cells is true", size)
		}
	}
}

func TestSameReportOfSessions(t *testing.T) {
	for i, acts := range someSessions() {
		_, reports := runActs(t, acts)
		for k, r := range reports {
			for n, other := range reports {
				if got, want := impl.SameReport(r, other), equalReports(r, other); got != want || k == n && !got {
					t.Errorf("SameReport of %d and %d of session %d is %v", k, n, i, got)
				}
			}
		}
	}
}
