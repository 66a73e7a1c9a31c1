package tests

// Chapter 12 read a second time: what an action should do, with the model of
// chapter 11 for its line. Every action that a test performs is compared with
// this model, and every session with its actions one by one, with its first
// actions alone, and with what they grant.

import (
	"fmt"
	"slices"
	"testing"

	"loop.example/g00787/impl"
)

const maxActs = 40

const (
	acGrant = iota + 1
	acRevoke
	acRefuel
	acAnswer
	acTick
	acEval
)

func grant(c int) impl.Act    { return impl.Act{Kind: acGrant, N: c} }
func revoke(c int) impl.Act   { return impl.Act{Kind: acRevoke, N: c} }
func refuel(n int) impl.Act   { return impl.Act{Kind: acRefuel, N: n} }
func answer(n int) impl.Act   { return impl.Act{Kind: acAnswer, N: n} }
func tick(n int) impl.Act     { return impl.Act{Kind: acTick, N: n} }
func eval(t string) impl.Act  { return impl.Act{Kind: acEval, Line: t} }
func isEval(a impl.Act) bool  { return a.Kind == acEval }
func isGrant(a impl.Act) bool { return a.Kind == acGrant || a.Kind == acRevoke }

// raised counts the number up one by one, as far as the limit.
func raised(n, by, limit int) int {
	for range by {
		if n < limit {
			n++
		}
	}
	return n
}

// actWork changes the Forth by an action and returns the report.
func actWork(f *impl.Forth, a impl.Act) impl.Report {
	m := &f.Machine
	h := &m.Host
	switch {
	case isEval(a):
		return lineWork(f, a.Line)
	case isGrant(a):
		h.Granted[a.N] = a.Kind == acGrant
	case a.Kind == acRefuel:
		m.Fuel = raised(m.Fuel, a.N, maxFuel)
	case a.Kind == acTick:
		h.Clock = raised(h.Clock, a.N, maxCell)
	case len(h.Answers) < maxAnswers:
		h.Answers = append(h.Answers, a.N)
	}
	return impl.Report{Fuel: m.Fuel, Stack: slices.Clone(m.Data.Stack), Compiling: f.Compiling}
}

// doAct performs an action, checks what holds for every action, and returns
// what DoAct returns.
func doAct(t *testing.T, f impl.Forth, a impl.Act) (impl.Forth, impl.Report) {
	t.Helper()
	before, want := clonedForth(f), clonedForth(f)
	got, report, code := impl.DoAct(f, a)
	wantReport := actWork(&want, a)
	if code != impl.OK || !equalReports(report, wantReport) || !equalForths(got, want) {
		t.Errorf("DoAct(%s, %v) = %s, %v, %d, not %s, %v", forthText(before), a, forthText(got), report, code, forthText(want), wantReport)
	}
	if !equalForths(f, before) {
		t.Errorf("the action %v changes its argument", a)
	}
	if !impl.ForthOK(got) {
		t.Errorf("the action %v leaves %s", a, forthText(got))
	}
	wantFuelOf(t, a, before, report)
	if isEval(a) {
		wantEvaluation(t, f, a.Line, got, report)
	} else {
		wantHostAction(t, a, before, got, report)
	}
	return got, report
}

// wantFuelOf checks that only refuelling raises the fuel, and only a line
// lowers it.
func wantFuelOf(t *testing.T, a impl.Act, before impl.Forth, report impl.Report) {
	t.Helper()
	old := before.Machine.Fuel
	if report.Fuel > old && a.Kind != acRefuel || report.Fuel < old && !isEval(a) || report.Fuel < 0 || report.Fuel > maxFuel {
		t.Errorf("the action %v changes the fuel from %d to %d", a, old, report.Fuel)
	}
}

func wantEvaluation(t *testing.T, f impl.Forth, line string, got impl.Forth, report impl.Report) {
	t.Helper()
	if want, wantReport := evalLine(t, f, line); !equalForths(got, want) || !equalReports(report, wantReport) {
		t.Errorf("the action for the line %q leaves %s and the report %v, not %s and %v", line, forthText(got), report, forthText(want), wantReport)
	}
}

// wantHostAction checks that only the host and the fuel are changed, and the
// report is that of the Forth behind the action.
func wantHostAction(t *testing.T, a impl.Act, before, got impl.Forth, report impl.Report) {
	t.Helper()
	if want := (impl.Report{Fuel: got.Machine.Fuel, Stack: got.Machine.Data.Stack, Compiling: got.Compiling}); !equalReports(report, want) {
		t.Errorf("the action %v has the report %v, not %v", a, report, want)
	}
	before.Machine.Fuel, before.Machine.Host = got.Machine.Fuel, got.Machine.Host
	if !equalForths(got, before) {
		t.Errorf("the action %v changes what a script has: %s, then %s", a, forthText(before), forthText(got))
	}
}

// runActs compares a session with each of its actions.
func runActs(t *testing.T, acts []impl.Act) (impl.Forth, []impl.Report) {
	t.Helper()
	own := slices.Clone(acts)
	got, reports, code := impl.RunActs(own)
	if !slices.Equal(own, acts) {
		t.Errorf("RunActs of %v changes its argument", acts)
	}
	want := impl.NewForth()
	var wantReports []impl.Report
	for i, a := range acts {
		wantGrants(t, acts, i, want.Machine.Host.Granted)
		next, report := doAct(t, want, a)
		want, wantReports = next, append(wantReports, report)
	}
	wantGrants(t, acts, len(acts), want.Machine.Host.Granted)
	if code != impl.OK || !equalForths(got, want) || !slices.EqualFunc(reports, wantReports, equalReports) {
		t.Errorf("RunActs of %v = %s, %v, %d, not %s, %v", acts, forthText(got), reports, code, forthText(want), wantReports)
	}
	wantFirstReports(t, acts, reports)
	return got, reports
}

// wantFirstReports runs the first actions alone, and with others behind them.
func wantFirstReports(t *testing.T, acts []impl.Act, reports []impl.Report) {
	t.Helper()
	others := []impl.Act{eval("zap 1 ."), revoke(1), grant(3), refuel(maxFuel), answer(5), tick(7), eval(": open 1 . ;")}
	for size := range min(len(acts), len(reports)) {
		first := acts[:size:size]
		f, alone, code := impl.RunActs(first)
		if code != impl.OK || !impl.ForthOK(f) || !slices.EqualFunc(alone, reports[:size], equalReports) {
			t.Errorf("RunActs of %v = %s, %v, %d, but with more actions it reports %v", first, forthText(f), alone, code, reports[:size])
		}
		longer := append(first, others[:min(maxActs-size, 1+size%len(others))]...)
		_, again, code := impl.RunActs(longer)
		if code != impl.OK || len(again) != len(longer) || !slices.EqualFunc(again[:size], alone, equalReports) {
			t.Errorf("RunActs of %v has the reports %v and the code %d, but of the first %d actions alone %v", longer, again, code, size, alone)
		}
	}
}

func wantGrants(t *testing.T, acts []impl.Act, place int, want []bool) {
	t.Helper()
	own := slices.Clone(acts)
	if got, code := impl.GrantsAt(own, place); code != impl.OK || !slices.Equal(got, want) {
		t.Errorf("GrantsAt(%v, %d) = %v, %d, not %v", acts, place, got, code, want)
	}
	if !slices.Equal(own, acts) {
		t.Errorf("GrantsAt of %v changes its argument", acts)
	}
}

// actsText is short, also for very many actions.
func actsText(acts []impl.Act) string {
	return fmt.Sprintf("%d actions: %.300s", len(acts), fmt.Sprint(acts[:min(len(acts), 5)]))
}
