package tests

// Promise 15, the sessions: which ones there are, and that they perform their
// actions in order and leave nothing running.

import (
	"fmt"
	"runtime"
	"slices"
	"strings"
	"sync"
	"testing"

	"loop.example/g00787/impl"
)

// someSessions have every kind of action, in several orders.
func someSessions() [][]impl.Act {
	return [][]impl.Act{
		nil,
		{eval("")},
		{eval("1 2 3")},
		{eval("1 dup")},
		{refuel(maxFuel)},
		{refuel(maxFuel), eval("1 dup"), refuel(1), refuel(maxFuel)},
		{refuel(2), eval("1 dup dup dup"), refuel(1), eval("1 dup"), eval("dup")},
		{eval("1 2 zap"), refuel(10), eval("3 ."), eval("7 throw"), eval("4 .")},
		{grant(0), grant(1), grant(2), grant(3), refuel(100), eval("42 3 hwrite 3 hread 7 hask htime"), revoke(1), eval("1 1 hwrite"), eval("3 hread .")},
		{answer(5), answer(6), tick(1000), tick(1), refuel(50), eval("1 hask"), grant(2), eval("1 hask 2 hask 3 hask"), answer(7), eval("4 hask")},
		{eval(": sq dup"), refuel(9), eval("* ;"), tick(3), eval("3 sq ."), eval(": open 1 if"), grant(1), eval("zap"), eval("sq")},
		{eval(": a begin 0 until ;"), refuel(maxFuel), eval("a"), refuel(3), eval("a"), eval("1")},
		{refuel(60), eval("variable v 5 v !"), eval("3 constant c"), eval(": get v @ c + ;"), eval("get ."), eval("' get catch"), eval("hex ff"), eval("( a")},
		{grant(3), grant(3), refuel(5), eval("htime"), revoke(3), revoke(3), eval("htime"), grant(3), tick(7), eval("htime")},
		{refuel(20), eval("' htime catch"), grant(3), eval("' htime catch"), revoke(3), eval(": t htime ; ' t catch")},
	}
}

func TestSessions(t *testing.T) {
	for _, acts := range someSessions() {
		runActs(t, acts)
	}
	for _, a := range validActs() {
		runActs(t, []impl.Act{a})
		runActs(t, []impl.Act{refuel(7), a, eval("1 dup"), a})
	}
}

func TestSessionWithoutActions(t *testing.T) {
	for _, acts := range [][]impl.Act{nil, {}, make([]impl.Act, 0, 5)} {
		if f, reports, code := impl.RunActs(acts); code != impl.OK || len(reports) > 0 || !equalForths(f, impl.NewForth()) {
			t.Errorf("RunActs of no actions = %s, %v, %d", forthText(f), reports, code)
		}
	}
}

// TestReportsOfASession has the reports as chapter 12 has them, without a
// model.
func TestReportsOfASession(t *testing.T) {
	for _, v := range []struct {
		acts []impl.Act
		want []impl.Report
	}{
		{[]impl.Act{eval("1 dup"), refuel(2), eval("5 dup ."), eval("6 dup")}, []impl.Report{{Throw: -101}, {Fuel: 2}, {Said: "5 ", Stack: []int{5}}, {Throw: -101}}},
		{[]impl.Act{refuel(maxFuel), refuel(maxFuel), eval("1 dup"), refuel(1)}, []impl.Report{{Fuel: 4000}, {Fuel: 4000}, {Fuel: 3999, Stack: []int{1, 1}}, {Fuel: 4000, Stack: []int{1, 1}}}},
		{[]impl.Act{eval("1 2"), eval(": a 7"), tick(5), eval(";"), grant(0)}, []impl.Report{{Stack: []int{1, 2}}, {Stack: []int{1, 2}, Compiling: true}, {Stack: []int{1, 2}, Compiling: true}, {Stack: []int{1, 2}}, {Stack: []int{1, 2}}}},
		{[]impl.Act{eval("1 zap"), eval("2"), revoke(2)}, []impl.Report{{Throw: -13}, {Stack: []int{2}}, {Stack: []int{2}}}},
		{[]impl.Act{refuel(9), grant(3), tick(4), eval("htime ."), tick(1), eval("htime")}, []impl.Report{{Fuel: 9}, {Fuel: 9}, {Fuel: 9}, {Fuel: 7, Said: "4 "}, {Fuel: 7}, {Fuel: 6, Stack: []int{5}}}},
	} {
		_, reports := runActs(t, v.acts)
		if !slices.EqualFunc(reports, v.want, equalReports) {
			t.Errorf("RunActs of %v has the reports %v, not %v", v.acts, reports, v.want)
		}
	}
}

func TestSessionsUpToMaxActs(t *testing.T) {
	for _, a := range append(someActs(), eval("1"), eval("zap"), refuel(maxFuel), eval(strings.Repeat("1 ", maxLine/2)), eval(": a 1 ;")) {
		for _, size := range []int{1, 2, maxActs - 1, maxActs} {
			if _, reports := runActs(t, slices.Repeat([]impl.Act{a}, size)); len(reports) != size {
				t.Errorf("%d actions have %d reports", size, len(reports))
			}
		}
	}
}

func wantNoSession(t *testing.T, acts []impl.Act, wantCode int) {
	t.Helper()
	if f, reports, code := impl.RunActs(acts); code != wantCode || len(reports) > 0 || !isZeroForth(f) {
		t.Errorf("RunActs of %s = %s, %v, %d, not the code %d", actsText(acts), forthText(f), reports, code, wantCode)
	}
	for _, place := range []int{minInt, -1, 0, 1, len(acts), len(acts) + 1, maxInt} {
		if granted, code := impl.GrantsAt(acts, place); code != wantCode || len(granted) > 0 {
			t.Errorf("GrantsAt of %s at %d = %v, %d, not the code %d", actsText(acts), place, granted, code, wantCode)
		}
	}
}

func TestTooManyActions(t *testing.T) {
	for _, a := range append(someActs(), impl.Act{}, impl.Act{Kind: 7}, grant(4), refuel(0), eval(strings.Repeat("x", impl.MaxText+1))) {
		for _, size := range []int{maxActs + 1, maxActs + 2, 2 * maxActs, impl.MaxList - 1, impl.MaxList} {
			wantNoSession(t, slices.Repeat([]impl.Act{a}, size), impl.ErrMany)
		}
		for _, size := range []int{impl.MaxList + 1, 2 * impl.MaxList} {
			wantNoSession(t, slices.Repeat([]impl.Act{a}, size), impl.ErrLong)
		}
	}
}

// TestInvalidActions has them at every place, also behind an action that
// throws.
func TestInvalidActions(t *testing.T) {
	for _, bad := range badActs() {
		wantNoSession(t, []impl.Act{bad}, impl.ErrBad)
		wantNoSession(t, []impl.Act{eval("zap"), bad}, impl.ErrBad)
		wantNoSession(t, []impl.Act{bad, refuel(1), bad}, impl.ErrBad)
	}
	for _, bad := range []impl.Act{{}, {Kind: 7}, {Kind: -1, N: 1}, grant(-1), revoke(4), refuel(maxFuel + 1), answer(minCell - 1), tick(0), {Kind: acTick, N: 1, Line: "x"}, {Kind: acEval, N: 1}, eval(strings.Repeat("x", maxLine+1))} {
		for _, acts := range append(someSessions(), slices.Repeat([]impl.Act{eval("zap")}, maxActs), slices.Repeat(someActs(), 5)) {
			for place := range acts {
				own := slices.Clone(acts)
				own[place] = bad
				wantNoSession(t, own, impl.ErrBad)
			}
			wantNoSession(t, append(slices.Repeat([]impl.Act{eval("zap")}, maxActs), bad), impl.ErrMany)
			wantNoSession(t, append(make([]impl.Act, impl.MaxList), bad), impl.ErrLong)
		}
	}
}

// TestFuelOfSessions grows at refuellings, and shrinks at lines.
func TestFuelOfSessions(t *testing.T) {
	for _, n := range []int{1, 10, 1000, maxFuel - 1, maxFuel} {
		acts := []impl.Act{grant(3), refuel(n), answer(3), tick(8), revoke(3), eval(": a begin 0 until ;"), eval("1 dup drop"), eval("a"), refuel(n), refuel(n), eval(""), eval("' a catch"), refuel(1), eval("1 2 3"), refuel(maxFuel)}
		_, reports := runActs(t, acts)
		fuel := 0
		for i, r := range reports {
			if r.Fuel > fuel && acts[i].Kind != acRefuel || r.Fuel < fuel && acts[i].Kind != acEval {
				t.Errorf("the action %v changes the fuel from %d to %d", acts[i], fuel, r.Fuel)
			}
			fuel = r.Fuel
		}
		if fuel != maxFuel {
			t.Errorf("the fuel is %d in the end", fuel)
		}
	}
}

// TestNoFuelWithoutRefuelling has lines that cannot run a token.
func TestNoFuelWithoutRefuelling(t *testing.T) {
	acts := []impl.Act{grant(0), grant(1), grant(2), grant(3), tick(1000), answer(maxCell)}
	for _, line := range []string{"1 dup", "exit", "0 hread", "htime", "variable v v", ": a ; a", "' dup execute", "7 throw"} {
		acts = append(acts, eval(line))
	}
	f, reports := runActs(t, acts)
	for i, r := range reports {
		if r.Fuel != 0 || isEval(acts[i]) && r.Throw != -101 {
			t.Errorf("the action %v has the report %v", acts[i], r)
		}
	}
	if len(f.Machine.Host.Deeds) > 0 || f.Machine.Fuel != 0 {
		t.Errorf("the session leaves %s", forthText(f))
	}
}

// TestSessionsLeaveNoGoroutine counts them behind many sessions.
func TestSessionsLeaveNoGoroutine(t *testing.T) {
	before := runtime.NumGoroutine()
	for range 20 {
		for _, acts := range append(someSessions(), make([]impl.Act, 3), make([]impl.Act, maxActs+1)) {
			impl.RunActs(acts)
			impl.GrantsAt(acts, len(acts))
		}
		for _, a := range append(someActs(), impl.Act{}) {
			impl.DoAct(impl.NewForth(), a)
			impl.DoAct(impl.Forth{}, a)
		}
	}
	// The last ones may still be about to end.
	for range 1000 {
		if runtime.NumGoroutine() <= before {
			return
		}
		runtime.Gosched()
	}
	t.Errorf("there are %d goroutines, and %d before", runtime.NumGoroutine(), before)
}

// TestSessionsAtTheSameTime do not know of each other.
func TestSessionsAtTheSameTime(t *testing.T) {
	sessions := someSessions()
	want := make([]string, len(sessions))
	for i, acts := range sessions {
		want[i] = sessionText(acts)
	}
	var group sync.WaitGroup
	got := make([]string, 8*len(sessions))
	for i := range got {
		group.Go(func() { got[i] = sessionText(sessions[i%len(sessions)]) })
	}
	group.Wait()
	for i, text := range got {
		if text != want[i%len(sessions)] {
			t.Errorf("the session %d among others ends with %s, not %s", i%len(sessions), text, want[i%len(sessions)])
		}
	}
}

func sessionText(acts []impl.Act) string {
	f, reports, code := impl.RunActs(acts)
	return fmt.Sprint(forthText(f), reportsText(reports...), code)
}
