package tests

// Promise 7, the calls that throw: a call of a capability that is not granted
// has no effect and reveals nothing but that, whatever else is the matter; of
// two throws the first in the document's order counts.

import (
	"fmt"
	"slices"
	"testing"

	"loop.example/g00787/impl"
)

// troubles has what makes a granted call of some capability throw.
func troubles() map[string]func(h *impl.Host, d *impl.Data) {
	return map[string]func(h *impl.Host, d *impl.Data){
		"nothing":               func(h *impl.Host, d *impl.Data) {},
		"no cell on Stack":      func(h *impl.Host, d *impl.Data) { d.Stack = nil },
		"one cell on Stack":     func(h *impl.Host, d *impl.Data) { d.Stack = []int{3} },
		"one cell, no index":    func(h *impl.Host, d *impl.Data) { d.Stack = []int{8} },
		"a full Stack":          func(h *impl.Host, d *impl.Data) { d.Stack = append(make([]int, maxStack-1), 3) },
		"a full Stack, -1":      func(h *impl.Host, d *impl.Data) { d.Stack = append(make([]int, maxStack-1), -1) },
		"the index -1":          func(h *impl.Host, d *impl.Data) { d.Stack = []int{5, 6, -1} },
		"the index 8":           func(h *impl.Host, d *impl.Data) { d.Stack = []int{5, 6, 8} },
		"the smallest index":    func(h *impl.Host, d *impl.Data) { d.Stack = []int{5, 6, minCell} },
		"the largest index":     func(h *impl.Host, d *impl.Data) { d.Stack = []int{5, 6, maxCell} },
		"all deeds":             func(h *impl.Host, d *impl.Data) { h.Deeds = someDeeds(maxDeeds) },
		"all deeds, no cell":    func(h *impl.Host, d *impl.Data) { h.Deeds, d.Stack = someDeeds(maxDeeds), nil },
		"all deeds, full Stack": func(h *impl.Host, d *impl.Data) { h.Deeds, d.Stack = someDeeds(maxDeeds), filled(maxStack) },
		"all deeds, no index":   func(h *impl.Host, d *impl.Data) { h.Deeds, d.Stack = someDeeds(maxDeeds), []int{5, 6, 8} },
		"no answer":             func(h *impl.Host, d *impl.Data) { h.Answers = nil },
		"all answers":           func(h *impl.Host, d *impl.Data) { h.Answers = filled(maxAnswers) },
		"the last time":         func(h *impl.Host, d *impl.Data) { h.Clock = maxCell },
	}
}

func TestCallsThatAreNotGranted(t *testing.T) {
	for _, granted := range someGrants() {
		for what, trouble := range troubles() {
			h, d := hostOf(3, 5, granted...), dataOn(71, 72, 3)
			trouble(&h, &d)
			for c := range capCount {
				if !slices.Contains(granted, c) {
					wantCallThrow(t, fmt.Sprint("a call of ", c, " with ", what, ", granted ", granted), h, d, c, -100)
				}
			}
		}
	}
}

func TestCallsThatAreGranted(t *testing.T) {
	for c := range capCount {
		for what, trouble := range troubles() {
			h, d := hostOf(3, 5, c), dataOn(71, 72, 3)
			trouble(&h, &d)
			hostThen, dataThen, wantThrow := callResult(h, d, c)
			if wantThrow != 0 {
				wantCallThrow(t, fmt.Sprint("a call of ", c, " with ", what), h, d, c, wantThrow)
				continue
			}
			wantCall(t, fmt.Sprint("a call of ", c, " with ", what), h, d, c, hostThen, dataThen, 0)
			if len(hostThen.Deeds) != len(h.Deeds)+1 {
				t.Errorf("a call of %d with %s is not expected to be recorded", c, what)
			}
		}
	}
}

func TestCallsAfterGrantAndRevocation(t *testing.T) {
	for c := range capCount {
		for _, granted := range someGrants() {
			h, d := hostOf(3, 5, granted...), dataOn(71, 72, 3)
			on, _ := impl.GrantCap(h, c, true)
			off, _ := impl.GrantCap(on, c, false)
			hostThen, dataThen, _ := callResult(on, d, c)
			wantCall(t, fmt.Sprint("a call of ", c, " once it is granted"), on, d, c, hostThen, dataThen, 0)
			wantCallThrow(t, fmt.Sprint("a call of ", c, " once it is revoked"), off, d, c, -100)
		}
	}
}

func TestThrowsOfCalls(t *testing.T) {
	for _, v := range []struct {
		c, deeds int
		stack    []int
		throw    int
	}{
		{0, 0, nil, -4}, {0, 0, []int{8}, -9}, {0, 0, []int{-1}, -9}, {0, 0, []int{7}, 0}, {0, maxDeeds - 1, []int{7}, 0}, {0, maxDeeds, []int{7}, -8},
		{0, maxDeeds, nil, -8}, {0, maxDeeds, []int{8}, -8}, {0, maxDeeds - 1, nil, -4}, {0, maxDeeds - 1, []int{8}, -9},
		{1, 0, nil, -4}, {1, 0, []int{7}, -4}, {1, 0, []int{8}, -4}, {1, 0, []int{-1}, -4}, {1, 0, []int{7, 8}, -9}, {1, 0, []int{8, -1}, -9}, {1, 0, []int{8, 7}, 0}, {1, maxDeeds - 1, []int{8, 7}, 0}, {1, maxDeeds, []int{8, 7}, -8},
		{1, maxDeeds, nil, -8}, {1, maxDeeds, []int{7}, -8}, {1, maxDeeds, []int{7, 8}, -8}, {1, maxDeeds - 1, []int{8}, -4}, {1, maxDeeds - 1, []int{7, 8}, -9},
		{2, 0, nil, -4}, {2, 0, []int{8}, 0}, {2, maxDeeds - 1, []int{8}, 0}, {2, maxDeeds, []int{8}, -8},
		{2, maxDeeds, nil, -8}, {2, maxDeeds - 1, nil, -4},
		{3, 0, nil, 0}, {3, 0, []int{8}, 0}, {3, maxDeeds - 1, nil, 0}, {3, maxDeeds, nil, -8},
		{3, 0, filled(maxStack - 1), 0}, {3, 0, filled(maxStack), -3}, {3, maxDeeds - 1, filled(maxStack), -3}, {3, maxDeeds, filled(maxStack), -8}, {3, maxDeeds, filled(maxStack - 1), -8},
	} {
		what := fmt.Sprint("a call of ", v.c, " behind ", v.deeds, " deeds with ", v.stack)
		h, d := hostOf(3, v.deeds, v.c), dataOn(v.stack...)
		if v.throw != 0 {
			wantCallThrow(t, what, h, d, v.c, v.throw)
		} else if _, _, throw, code := impl.HostCall(h, d, v.c); throw != 0 || code != impl.OK {
			t.Errorf("%s throws %d, %d", what, throw, code)
		}
		for c := range capCount {
			if c != v.c {
				wantCallThrow(t, what+", which is not granted", h, d, c, -100)
			}
		}
	}
}

// TestStackIsFullForCalls shows that only the time needs room on Stack.
func TestStackIsFullForCalls(t *testing.T) {
	h := hostOf(3, 5, 0, 1, 2, 3)
	d := dataOn(append(filled(maxStack-1), 7)...)
	for c, throw := range []int{0, 0, 0, -3} {
		if _, _, got, code := impl.HostCall(h, d, c); got != throw || code != impl.OK {
			t.Errorf("a call of %d throws %d, %d, not %d", c, got, code, throw)
		}
	}
}

// othersBehind has hosts that differ from h only in what a capability reveals.
func othersBehind(h impl.Host, c int) []impl.Host {
	var list []impl.Host
	turned := func(turn func(h *impl.Host)) {
		other := clonedHost(h)
		turn(&other)
		list = append(list, other)
	}
	switch c {
	case 0:
		for i := range storeSize {
			turned(func(h *impl.Host) { h.Store[i] = 900 + i })
		}
		turned(func(h *impl.Host) { clear(h.Store) })
	case 2:
		for _, size := range []int{0, 1, 2, maxAnswers} {
			turned(func(h *impl.Host) { h.Answers = make([]int, size) })
		}
		turned(func(h *impl.Host) { slices.Reverse(h.Answers) })
	case 3:
		for _, clock := range []int{0, 1, maxCell} {
			turned(func(h *impl.Host) { h.Clock = clock })
		}
	}
	return list
}

// TestHostsThatDifferBehindACapability calls every capability, twice in every
// order, of two hosts that a script must not tell apart.
func TestHostsThatDifferBehindACapability(t *testing.T) {
	for _, granted := range someGrants() {
		for hidden := range capCount {
			if slices.Contains(granted, hidden) {
				continue
			}
			for _, deeds := range []int{0, 5, maxDeeds - 1, maxDeeds} {
				h := hostOf(3, deeds, granted...)
				for i, other := range othersBehind(h, hidden) {
					what := fmt.Sprint("hosts that differ behind ", hidden, ", granted ", granted, ", ", deeds, " deeds, other ", i)
					for first := range capCount {
						for second := range capCount {
							answerAlike(t, what, h, other, []int{first, second})
						}
					}
				}
			}
		}
	}
}

// answerAlike makes the same calls of both hosts and compares all that the
// script and the log have of them.
func answerAlike(t *testing.T, what string, a, b impl.Host, calls []int) {
	t.Helper()
	for _, stack := range [][]int{nil, {6}, {4, 2}, {5, 4, 3, 9}, {5, 4, -1, 7}, append(filled(maxStack-1), 7)} {
		hostA, hostB := a, b
		dataA, dataB := dataOn(stack...), dataOn(stack...)
		for _, c := range calls {
			var throwA, throwB int
			hostA, dataA, throwA, _ = impl.HostCall(hostA, dataA, c)
			hostB, dataB, throwB, _ = impl.HostCall(hostB, dataB, c)
			if throwA != throwB || !equalData(dataA, dataB) || !slices.Equal(hostA.Deeds, hostB.Deeds) {
				t.Errorf("%s: the calls %v of %v are answered by %v, %d, %v and by %v, %d, %v", what, calls, stack, dataA, throwA, hostA.Deeds, dataB, throwB, hostB.Deeds)
			}
		}
	}
}
