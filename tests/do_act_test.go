package tests

// Promise 15, the actions one by one: the effect of each kind, and its report.

import (
	"fmt"
	"slices"
	"strings"
	"testing"

	"loop.example/g00787/impl"
)

// actForths has Forths with full and empty fuel, queues, clocks and stacks,
// with output, and with an open definition.
func actForths() []impl.Forth {
	list := []impl.Forth{impl.NewForth(), newForth("5|6"), openForth(), fullForth(), closedForth("5 6|7", someSources()...), compiling(newForth(ofCells(32)), nil)}
	said := newForth("5 6|7")
	said.Machine.Data.Out = "said before"
	full := compiling(said, itemsOf("5 IF 6"))
	full.Machine.Data.Out, full.Machine.Fuel = strings.Repeat("o", maxOut), 0
	for _, h := range []impl.Host{hostOf(0, 0), hostOf(maxAnswers-1, 3, 0, 1, 2, 3), hostOf(maxAnswers, maxDeeds, 1, 2)} {
		for _, clock := range []int{0, maxCell - 30, maxCell} {
			h.Clock = clock
			for _, f := range []impl.Forth{said, full} {
				f.Machine.Host = h
				list = append(list, f)
			}
		}
	}
	return list
}

func TestDoAct(t *testing.T) {
	for _, f := range actForths() {
		for _, a := range append(validActs(), someActs()...) {
			doAct(t, f, a)
		}
	}
}

// TestEveryEffect has an action of each kind on one Forth, and compares what
// it leaves with what the table of chapter 12 says.
func TestEveryEffect(t *testing.T) {
	f := compiling(newForth("5|6"), itemsOf("IF"))
	f.Machine.Fuel, f.Machine.Host = 100, hostOf(1, 2, 1)
	turned := func(turn func(m *impl.Machine)) impl.Forth {
		other := clonedForth(f)
		turn(&other.Machine)
		return other
	}
	for i, v := range []struct {
		act    impl.Act
		want   impl.Forth
		report impl.Report
	}{
		{grant(2), turned(func(m *impl.Machine) { m.Host.Granted[2] = true }), impl.Report{Fuel: 100, Stack: []int{5}, Compiling: true}},
		{revoke(1), turned(func(m *impl.Machine) { m.Host.Granted[1] = false }), impl.Report{Fuel: 100, Stack: []int{5}, Compiling: true}},
		{refuel(50), turned(func(m *impl.Machine) { m.Fuel = 150 }), impl.Report{Fuel: 150, Stack: []int{5}, Compiling: true}},
		{answer(-7), turned(func(m *impl.Machine) { m.Host.Answers = append(m.Host.Answers, -7) }), impl.Report{Fuel: 100, Stack: []int{5}, Compiling: true}},
		{tick(30), turned(func(m *impl.Machine) { m.Host.Clock = 1264 }), impl.Report{Fuel: 100, Stack: []int{5}, Compiling: true}},
		{eval("then"), compiling(f, itemsOf("IF THEN")), impl.Report{Fuel: 100, Stack: []int{5}, Compiling: true}},
		{eval("zap"), thrown(f), impl.Report{Throw: -13, Fuel: 100}},
	} {
		got, report := doAct(t, f, v.act)
		if !equalForths(got, v.want) || !equalReports(report, v.report) {
			t.Errorf("case %d: DoAct of %v = %s, %v, not %s, %v", i, v.act, forthText(got), report, forthText(v.want), v.report)
		}
	}
}

func TestDoActOfInvalidArguments(t *testing.T) {
	wantNoAct := func(what string, f impl.Forth, a impl.Act) {
		t.Helper()
		if got, report, code := impl.DoAct(f, a); code != impl.ErrBad || !isZeroForth(got) || !isZeroReport(report) {
			t.Errorf("%s: DoAct of %.99v = %s, %v, %d", what, a, forthText(got), report, code)
		}
	}
	for i, f := range badForths() {
		for _, a := range someActs() {
			wantNoAct(fmt.Sprint("invalid Forth ", i), f, a)
		}
	}
	for _, a := range badActs() {
		for i, f := range []impl.Forth{impl.NewForth(), newForth("5|6"), openForth()} {
			wantNoAct(fmt.Sprint("Forth ", i), f, a)
		}
	}
	for i, f := range invalidForths() {
		for _, a := range []impl.Act{{}, {Kind: 7}, grant(4), refuel(0), {Kind: acTick, N: 1, Line: "x"}, eval(strings.Repeat("x", impl.MaxText+1)), {Kind: acEval, N: 1}} {
			wantNoAct(fmt.Sprint("invalid Forth ", i, " and action"), f, a)
		}
	}
}

func TestRefuelling(t *testing.T) {
	for _, v := range []struct{ fuel, n, want int }{
		{0, 1, 1}, {0, 50, 50}, {0, 3999, 3999}, {0, 4000, 4000},
		{1, 3998, 3999}, {1, 3999, 4000}, {1, 4000, 4000},
		{2000, 1999, 3999}, {2000, 2000, 4000}, {2000, 2001, 4000},
		{3998, 1, 3999}, {3998, 2, 4000}, {3998, 3, 4000},
		{3999, 1, 4000}, {3999, 2, 4000}, {3999, 4000, 4000},
		{4000, 1, 4000}, {4000, 2, 4000}, {4000, 3999, 4000}, {4000, 4000, 4000},
	} {
		for _, f := range []impl.Forth{newForth("5|6"), openForth(), fullForth()} {
			f.Machine.Fuel = v.fuel
			if got, report := doAct(t, f, refuel(v.n)); got.Machine.Fuel != v.want || report.Fuel != v.want {
				t.Errorf("refuelling %d by %d leaves %d and reports %d, not %d", v.fuel, v.n, got.Machine.Fuel, report.Fuel, v.want)
			}
		}
	}
}

// TestEveryRefuelling has all amounts around what there is room for.
func TestEveryRefuelling(t *testing.T) {
	f := impl.NewForth()
	for fuel := 0; fuel <= maxFuel; fuel += 250 {
		f.Machine.Fuel = fuel
		for n := max(1, maxFuel-fuel-3); n <= min(maxFuel-fuel+3, maxFuel); n++ {
			got, report, code := impl.DoAct(f, refuel(n))
			if want := min(fuel+n, 4000); code != impl.OK || got.Machine.Fuel != want || report.Fuel != want || !impl.ForthOK(got) {
				t.Errorf("refuelling %d by %d leaves %d and reports %d", fuel, n, got.Machine.Fuel, report.Fuel)
			}
		}
	}
}

// TestFullFuelIsUsed has the fuel that a full tank loses to lines, and wins
// back.
func TestFullFuelIsUsed(t *testing.T) {
	f := newForth("5")
	for _, v := range []struct {
		act  impl.Act
		fuel int
	}{
		{refuel(maxFuel), 4000}, {eval("dup"), 3999}, {refuel(1), 4000}, {refuel(1), 4000}, {eval("dup drop"), 3998}, {refuel(1), 3999}, {refuel(2), 4000},
		{grant(3), 4000}, {tick(5), 4000}, {answer(5), 4000}, {revoke(3), 4000}, {eval("htime"), 3999}, {eval(": a begin 0 until ;"), 3999}, {eval("a"), 0}, {eval("dup"), 0}, {refuel(maxFuel), 4000},
		{eval("1 2 3"), 4000}, {eval("' a catch"), 0}, {refuel(maxFuel - 1), 3999}, {refuel(maxFuel), 4000},
	} {
		got, report := doAct(t, f, v.act)
		if report.Fuel != v.fuel {
			t.Errorf("the action %v leaves the fuel %d, not %d", v.act, report.Fuel, v.fuel)
		}
		f = got
	}
}

func TestAnswering(t *testing.T) {
	for size := range maxAnswers + 1 {
		for _, n := range []int{minCell, -1, 0, 1, maxCell} {
			f := newForth("5|6")
			f.Machine.Host = hostOf(size, 3, 2)
			got, _ := doAct(t, f, answer(n))
			want := filled(size)
			if size < maxAnswers {
				want = append(want, n)
			}
			if !slices.Equal(got.Machine.Host.Answers, want) {
				t.Errorf("the answer %d to a queue of %d leaves %v", n, size, got.Machine.Host.Answers)
			}
			if size == maxAnswers && !equalForths(got, f) {
				t.Errorf("the answer %d to a full queue leaves %s", n, forthText(got))
			}
		}
	}
}

// TestAnswersAreAskedFor has answers to a queue that was full before.
func TestAnswersAreAskedFor(t *testing.T) {
	f := newForth("")
	f.Machine.Host = hostOf(0, 0, 2)
	for n := range maxAnswers + 3 {
		f, _ = doAct(t, f, answer(100+n))
	}
	f, report := doAct(t, f, eval("1 hask 2 hask"))
	if !slices.Equal(report.Stack, []int{100, 101}) {
		t.Errorf("the first answers are %v", report.Stack)
	}
	for _, n := range []int{7, 8, 9} {
		f, _ = doAct(t, f, answer(n))
	}
	want := append(filledFrom(102, maxAnswers-2), 7, 8)
	if got := f.Machine.Host.Answers; !slices.Equal(got, want) {
		t.Errorf("the queue is %v, not %v", got, want)
	}
}

func filledFrom(first, size int) []int {
	var list []int
	for i := range size {
		list = append(list, first+i)
	}
	return list
}

func TestTicking(t *testing.T) {
	for _, v := range []struct{ clock, n, want int }{
		{0, 1, 1}, {0, 999, 999}, {0, 1000, 1000}, {5, 1000, 1005}, {1234, 30, 1264},
		{maxCell - 1001, 1000, maxCell - 1}, {maxCell - 1000, 999, maxCell - 1}, {maxCell - 1000, 1000, maxCell}, {maxCell - 999, 1000, maxCell},
		{maxCell - 2, 1, maxCell - 1}, {maxCell - 1, 1, maxCell}, {maxCell - 1, 2, maxCell}, {maxCell - 1, 1000, maxCell},
		{maxCell, 1, maxCell}, {maxCell, 2, maxCell}, {maxCell, 1000, maxCell},
	} {
		f := newForth("5|6")
		f.Machine.Host.Clock, f.Machine.Host.Granted[3] = v.clock, true
		got, _ := doAct(t, f, tick(v.n))
		if got.Machine.Host.Clock != v.want {
			t.Errorf("%d ticks of the clock %d leave %d, not %d", v.n, v.clock, got.Machine.Host.Clock, v.want)
		}
		if _, report := doAct(t, got, eval("htime")); !slices.Equal(report.Stack, []int{5, v.want}) {
			t.Errorf("behind %d ticks of the clock %d a script reads %v", v.n, v.clock, report.Stack)
		}
	}
}

// TestGrantsOfWhatIsGranted changes nothing, nor do revocations of what is not.
func TestGrantsOfWhatIsGranted(t *testing.T) {
	for _, granted := range someGrants() {
		for c := range capCount {
			f := newForth("5|6")
			f.Machine.Host = hostOf(2, 3, granted...)
			given, _ := doAct(t, f, grant(c))
			taken, _ := doAct(t, f, revoke(c))
			had := slices.Contains(granted, c)
			if equalForths(given, f) != had || equalForths(taken, f) == had {
				t.Errorf("granting and revoking %d of %v leaves %v and %v", c, granted, given.Machine.Host, taken.Machine.Host)
			}
			if again, _ := doAct(t, given, grant(c)); !equalForths(again, given) {
				t.Errorf("granting %d twice leaves %v", c, again.Machine.Host)
			}
			if again, _ := doAct(t, taken, revoke(c)); !equalForths(again, taken) {
				t.Errorf("revoking %d twice leaves %v", c, again.Machine.Host)
			}
			if back, _ := doAct(t, given, revoke(c)); !equalForths(back, taken) {
				t.Errorf("granting and revoking %d leaves %v", c, back.Machine.Host)
			}
		}
	}
}

// TestOutputBehindActions is reported by the next line, and by nothing else.
func TestOutputBehindActions(t *testing.T) {
	for _, out := range []string{"", "said", "\n", strings.Repeat("o", maxOut)} {
		for _, f := range []impl.Forth{newForth("5 6|7"), openForth(), fullForth()} {
			f.Machine.Data.Out = out
			for _, a := range append(someActs()[:acEval-1], grant(2), answer(1)) {
				got, report := doAct(t, f, a)
				if report.Said != "" || report.Throw != 0 || got.Machine.Data.Out != out || !slices.Equal(report.Stack, f.Machine.Data.Stack) || report.Compiling != f.Compiling {
					t.Errorf("the action %v has the report %v and leaves the output %q", a, report, got.Machine.Data.Out)
				}
				f = got
			}
			for _, line := range []string{"", "zap", "( a"} {
				got, report := doAct(t, f, eval(line))
				if report.Said != out || got.Machine.Data.Out != "" {
					t.Errorf("the line %q says %q and leaves the output %q", line, report.Said, got.Machine.Data.Out)
				}
				if _, report = doAct(t, got, tick(1)); report.Said != "" {
					t.Errorf("behind a line an action says %q", report.Said)
				}
			}
		}
	}
}

// TestEvaluationsThatThrow leave no definition open and both stacks empty.
func TestEvaluationsThatThrow(t *testing.T) {
	for _, v := range []struct {
		line  string
		throw int
	}{{"zap", -13}, {"( a", -22}, {"1 . 77 throw", 77}, {": a zap", -13}, {"drop drop", -4}, {"9 hread", -100}, {": a a0", -13}, {": a then", -22}, {"then", -14}, {": a recurse ; a", -50}, {": a begin 0 until ; a", -101}} {
		f := newForth("5|6")
		f.Machine.Data.Out = "before "
		got, report := doAct(t, f, eval(v.line))
		d := got.Machine.Data
		if report.Throw != v.throw || len(report.Stack) > 0 || report.Compiling || got.Compiling || len(d.Stack) > 0 || len(d.Back) > 0 || !strings.HasPrefix(report.Said, "before ") {
			t.Errorf("the action for %q has the report %v and leaves %s", v.line, report, forthText(got))
		}
		if _, next := doAct(t, got, refuel(9)); next.Throw != 0 || next.Said != "" {
			t.Errorf("behind a throw the action has the report %v", next)
		}
	}
}

// TestActionsWithinADefinition are performed between the lines of one.
func TestActionsWithinADefinition(t *testing.T) {
	f := newForth("5")
	f.Machine.Fuel = 0
	var reports []impl.Report
	for _, a := range []impl.Act{eval(": ask dup"), grant(2), eval("hask"), answer(9), eval("+ ;"), refuel(10), eval("ask"), revoke(2), eval("ask")} {
		next, report := doAct(t, f, a)
		f, reports = next, append(reports, report)
	}
	want := []impl.Report{
		{Stack: []int{5}, Compiling: true}, {Stack: []int{5}, Compiling: true}, {Stack: []int{5}, Compiling: true}, {Stack: []int{5}, Compiling: true}, {Stack: []int{5}},
		{Fuel: 10, Stack: []int{5}}, {Fuel: 5, Stack: []int{14}}, {Fuel: 5, Stack: []int{14}}, {Throw: -100, Fuel: 2},
	}
	if !slices.EqualFunc(reports, want, equalReports) {
		t.Errorf("the reports are %v, not %v", reports, want)
	}
}
