package tests

// Promise 7, the host itself: what a valid host is, how capabilities are
// granted and revoked, and how answers are queued.

import (
	"fmt"
	"slices"
	"testing"

	"loop.example/g00787/impl"
)

const (
	capCount   = 4
	storeSize  = 8
	maxAnswers = 20
	maxDeeds   = 40
)

// someDeeds has deeds of every capability, none of which equals another.
func someDeeds(size int) []impl.Deed {
	list := make([]impl.Deed, size)
	for i := range list {
		list[i] = impl.Deed{Cap: i % capCount, A: minCell + 3*i, B: 10*i - 50, Result: maxCell - i}
	}
	return list
}

// hostOf has no 0 in its store, its queue and its clock.
func hostOf(answers, deeds int, granted ...int) impl.Host {
	h := impl.Host{Granted: make([]bool, capCount), Store: filled(storeSize), Answers: filled(answers), Clock: 1234, Deeds: someDeeds(deeds)}
	for _, c := range granted {
		h.Granted[c] = true
	}
	return h
}

// someGrants has every set of capabilities.
func someGrants() [][]int {
	var list [][]int
	for set := range 1 << capCount {
		var granted []int
		for c := range capCount {
			if set>>c&1 == 1 {
				granted = append(granted, c)
			}
		}
		list = append(list, granted)
	}
	return list
}

func validHosts() []impl.Host {
	list := []impl.Host{impl.NewHost()}
	for _, granted := range someGrants() {
		list = append(list, hostOf(3, 5, granted...))
	}
	for _, answers := range []int{0, 1, 2, maxAnswers - 1, maxAnswers} {
		for _, deeds := range []int{0, 1, maxDeeds - 1, maxDeeds} {
			list = append(list, hostOf(answers, deeds, 0, 1, 2, 3))
		}
	}
	for _, clock := range []int{0, 1, maxCell - 1, maxCell} {
		h := hostOf(2, 2, 3)
		h.Clock = clock
		list = append(list, h)
	}
	zeros := hostOf(3, 0, 0, 2)
	zeros.Store, zeros.Answers, zeros.Deeds = make([]int, storeSize), make([]int, maxAnswers), make([]impl.Deed, maxDeeds)
	return append(list, zeros)
}

// badHosts has hosts that are valid but for one part.
func badHosts() []impl.Host {
	var list []impl.Host
	turned := func(turn func(h *impl.Host)) {
		h := hostOf(3, 4, 0, 1, 2, 3)
		turn(&h)
		list = append(list, h)
	}
	for _, size := range []int{0, 1, capCount - 1, capCount + 1, impl.MaxList + 1} {
		turned(func(h *impl.Host) { h.Granted = make([]bool, size) })
	}
	for _, size := range []int{0, 1, storeSize - 1, storeSize + 1, impl.MaxList + 1} {
		turned(func(h *impl.Host) { h.Store = make([]int, size) })
	}
	turned(func(h *impl.Host) { h.Granted = nil })
	turned(func(h *impl.Host) { h.Store = nil })
	for _, size := range []int{1, maxAnswers, impl.MaxList} {
		turned(func(h *impl.Host) { h.Answers = make([]int, maxAnswers+size) })
	}
	for _, clock := range []int{minInt, minCell, -1234, -1, maxCell + 1, 1 << 32, maxInt} {
		turned(func(h *impl.Host) { h.Clock = clock })
	}
	for _, size := range []int{1, maxDeeds, impl.MaxList} {
		turned(func(h *impl.Host) { h.Deeds = make([]impl.Deed, maxDeeds+size) })
	}
	for _, n := range notCells() {
		for _, place := range []int{0, storeSize - 1} {
			turned(func(h *impl.Host) { h.Store[place] = n })
		}
		for _, place := range []int{0, 1, 2} {
			turned(func(h *impl.Host) { h.Answers[place] = n })
		}
	}
	for _, bad := range badDeeds() {
		for place := range 4 {
			turned(func(h *impl.Host) { h.Deeds[place] = bad })
		}
	}
	return append(list, impl.Host{})
}

// badDeeds has deeds of every capability that are valid but for one part.
func badDeeds() []impl.Deed {
	var list []impl.Deed
	for _, c := range notCaps() {
		list = append(list, impl.Deed{Cap: c, A: 1, B: 2, Result: 3})
	}
	for c := range capCount {
		for _, n := range notCells() {
			list = append(list, impl.Deed{Cap: c, A: n, B: 2, Result: 3}, impl.Deed{Cap: c, A: 1, B: n, Result: 3}, impl.Deed{Cap: c, A: 1, B: 2, Result: n})
		}
	}
	return list
}

func notCaps() []int {
	return []int{minInt, minInt + 1, minCell, -4, -1, capCount, capCount + 1, 100, maxCell, 1 << 32, 1<<32 + 1, maxInt}
}

// equalHosts does not rely on SameHost.
func equalHosts(a, b impl.Host) bool {
	return slices.Equal(a.Granted, b.Granted) && slices.Equal(a.Store, b.Store) && slices.Equal(a.Answers, b.Answers) &&
		a.Clock == b.Clock && slices.Equal(a.Deeds, b.Deeds)
}

func isZeroHost(h impl.Host) bool {
	return equalHosts(h, impl.Host{})
}

func clonedHost(h impl.Host) impl.Host {
	h.Granted, h.Store, h.Answers, h.Deeds = slices.Clone(h.Granted), slices.Clone(h.Store), slices.Clone(h.Answers), slices.Clone(h.Deeds)
	return h
}

// wantHost checks the results of a function that returns a host and a code.
func wantHost(t *testing.T, what string, got, want impl.Host, code, wantCode int) {
	t.Helper()
	if code != wantCode || !equalHosts(got, want) {
		t.Errorf("%s = %v, %d, not %v, %d", what, got, code, want, wantCode)
	}
}

func TestNumbersOfCapabilities(t *testing.T) {
	caps := []int{impl.CapRead, impl.CapWrite, impl.CapAsk, impl.CapTime}
	if !slices.Equal(caps, []int{0, 1, 2, 3}) {
		t.Errorf("the capabilities are %v", caps)
	}
	limits := []int{impl.MaxStore, impl.MaxAnswers, impl.MaxDeeds}
	if !slices.Equal(limits, []int{storeSize, maxAnswers, maxDeeds}) {
		t.Errorf("the limits are %v", limits)
	}
}

func TestNewHost(t *testing.T) {
	want := impl.Host{Granted: make([]bool, capCount), Store: make([]int, storeSize)}
	wantHost(t, "NewHost", impl.NewHost(), want, impl.OK, impl.OK)
}

func TestHostOK(t *testing.T) {
	for i, h := range validHosts() {
		if !impl.HostOK(h) {
			t.Errorf("valid host %d is refused: %v", i, h)
		}
	}
	for i, h := range badHosts() {
		if impl.HostOK(h) {
			t.Errorf("invalid host %d is accepted: %v", i, h)
		}
	}
}

// hostVariants has hosts that differ from h in one part each, and are valid if
// h has two answers and two deeds at least, and room for more.
func hostVariants(h impl.Host) []impl.Host {
	var list []impl.Host
	turned := func(turn func(h *impl.Host)) {
		other := clonedHost(h)
		turn(&other)
		list = append(list, other)
	}
	for c := range capCount {
		turned(func(h *impl.Host) { h.Granted[c] = !h.Granted[c] })
	}
	for i := range storeSize {
		turned(func(h *impl.Host) { h.Store[i] ^= 1 })
	}
	for i := range h.Answers {
		turned(func(h *impl.Host) { h.Answers[i] ^= 1 })
	}
	turned(func(h *impl.Host) { h.Answers = h.Answers[1:] })
	turned(func(h *impl.Host) { h.Answers = h.Answers[:len(h.Answers)-1] })
	turned(func(h *impl.Host) { h.Answers = append(h.Answers, 0) })
	turned(func(h *impl.Host) { h.Clock++ })
	for i := range h.Deeds {
		turned(func(h *impl.Host) { h.Deeds[i].Cap ^= 1 })
		turned(func(h *impl.Host) { h.Deeds[i].A ^= 1 })
		turned(func(h *impl.Host) { h.Deeds[i].B ^= 1 })
		turned(func(h *impl.Host) { h.Deeds[i].Result ^= 1 })
	}
	turned(func(h *impl.Host) { h.Deeds = h.Deeds[1:] })
	turned(func(h *impl.Host) { h.Deeds = h.Deeds[:len(h.Deeds)-1] })
	turned(func(h *impl.Host) { h.Deeds = append(h.Deeds, impl.Deed{}) })
	return list
}

func TestSameHost(t *testing.T) {
	for i, a := range validHosts() {
		if !impl.SameHost(a, clonedHost(a)) {
			t.Errorf("valid host %d is not the same as its copy", i)
		}
		for k, b := range validHosts() {
			if impl.SameHost(a, b) != equalHosts(a, b) {
				t.Errorf("SameHost of %d and %d", i, k)
			}
		}
	}
	h := hostOf(3, 5, 0, 2)
	for i, other := range hostVariants(h) {
		if !impl.HostOK(other) {
			t.Fatalf("variant %d is not valid", i)
		}
		if impl.SameHost(h, other) || impl.SameHost(other, h) {
			t.Errorf("variant %d passes for the same: %v", i, other)
		}
	}
}

func TestSameHostTakesNilForEmpty(t *testing.T) {
	a, b := impl.NewHost(), impl.NewHost()
	a.Answers, a.Deeds = nil, []impl.Deed{}
	b.Answers, b.Deeds = []int{}, nil
	if !impl.SameHost(a, b) {
		t.Error("nil is not the same as an empty list")
	}
}

func TestSameHostRefusesInvalidHosts(t *testing.T) {
	for i, bad := range badHosts() {
		if impl.SameHost(bad, bad) || impl.SameHost(bad, clonedHost(bad)) || impl.SameHost(bad, impl.NewHost()) || impl.SameHost(impl.NewHost(), bad) {
			t.Errorf("invalid host %d is the same as something", i)
		}
	}
}

func TestGrantCap(t *testing.T) {
	for i, h := range validHosts() {
		for c := range capCount {
			for _, yes := range []bool{false, true} {
				want := clonedHost(h)
				want.Granted[c] = yes
				got, code := impl.GrantCap(h, c, yes)
				wantHost(t, fmt.Sprint("GrantCap ", i, c, yes), got, want, code, impl.OK)
			}
		}
	}
}

func TestGrantCapOfNoCapability(t *testing.T) {
	for _, c := range notCaps() {
		for _, yes := range []bool{false, true} {
			for i, h := range validHosts() {
				got, code := impl.GrantCap(h, c, yes)
				wantHost(t, fmt.Sprint("GrantCap ", i, c, yes), got, impl.Host{}, code, impl.ErrKind)
			}
			for i, h := range badHosts() {
				got, code := impl.GrantCap(h, c, yes)
				wantHost(t, fmt.Sprint("GrantCap of invalid host ", i, c, yes), got, impl.Host{}, code, impl.ErrBad)
			}
		}
	}
}

func TestGrantCapOfInvalidHosts(t *testing.T) {
	for i, h := range badHosts() {
		for c := range capCount {
			got, code := impl.GrantCap(h, c, true)
			wantHost(t, fmt.Sprint("GrantCap of invalid host ", i, c), got, impl.Host{}, code, impl.ErrBad)
		}
	}
}

func TestAnswerHost(t *testing.T) {
	for i, h := range validHosts() {
		for _, n := range cells() {
			want, wantCode := clonedHost(h), impl.OK
			if len(h.Answers) < maxAnswers {
				want.Answers = append(want.Answers, n)
			} else {
				wantCode = impl.ErrFull
			}
			got, code := impl.AnswerHost(h, n)
			wantHost(t, fmt.Sprint("AnswerHost ", i, n), got, want, code, wantCode)
		}
	}
}

func TestAnswersUpToMaxAnswers(t *testing.T) {
	h, want := impl.NewHost(), impl.NewHost()
	for i := range maxAnswers {
		var code int
		h, code = impl.AnswerHost(h, 500-i)
		want.Answers = append(want.Answers, 500-i)
		wantHost(t, fmt.Sprint("AnswerHost ", i), h, want, code, impl.OK)
	}
	for _, n := range []int{minCell, 0, 480, maxCell} {
		got, code := impl.AnswerHost(h, n)
		wantHost(t, fmt.Sprint("AnswerHost ", n), got, want, code, impl.ErrFull)
	}
}

func TestAnswersThatAreNoCells(t *testing.T) {
	for _, n := range notCells() {
		for i, h := range validHosts() {
			got, code := impl.AnswerHost(h, n)
			wantHost(t, fmt.Sprint("AnswerHost ", i, n), got, impl.Host{}, code, impl.ErrRange)
		}
		for i, h := range badHosts() {
			got, code := impl.AnswerHost(h, n)
			wantHost(t, fmt.Sprint("AnswerHost of invalid host ", i, n), got, impl.Host{}, code, impl.ErrBad)
		}
	}
}

func TestAnswersOfInvalidHosts(t *testing.T) {
	for i, h := range badHosts() {
		for _, n := range []int{minCell, 0, maxCell} {
			got, code := impl.AnswerHost(h, n)
			wantHost(t, fmt.Sprint("AnswerHost of invalid host ", i, n), got, impl.Host{}, code, impl.ErrBad)
		}
		h.Answers = make([]int, maxAnswers)
		if got, code := impl.AnswerHost(h, 1); !impl.HostOK(h) {
			wantHost(t, fmt.Sprint("AnswerHost of invalid host ", i, " with a full queue"), got, impl.Host{}, code, impl.ErrBad)
		}
	}
}
