package tests

// Promises 10 and 12, the fuel: every step takes some, a run has at most as
// many steps as there was fuel, plus one that found none, and the throw of
// that one is never caught.

import (
	"fmt"
	"testing"

	"loop.example/g00787/impl"
)

// fuelCodes are the words from w86 on.
func fuelCodes() []string {
	return []string{
		"DUP * EXIT",
		"(LIT) 5 (LIT) 0 (DO) I (LOOP) 25 EXIT",
		"(LIT) 86 CATCH (LIT) 87 CATCH EXIT",
		"(LIT) 88 (LIT) 55 CATCH (LIT) 1 EXECUTE EXIT",
		"(LIT) 7 THROW",
		"(LIT) 90 CATCH (LIT) 53 CATCH (LIT) 66 CATCH EXIT",
		"(LIT) 91 (LIT) 54 (LIT) 55 EXECUTE EXIT",
	}
}

// TestEveryFuel gives each run from no fuel at all to more than it takes.
func TestEveryFuel(t *testing.T) {
	for _, token := range []string{"DUP", "HTIME", "HASK", "w84", "w86", "w87", "w88", "w89", "w90", "w91", "w92", "EXECUTE", "CATCH", "THROW", "EXIT"} {
		for _, stacks := range []string{"5 3", "5 w88", "5 w89 CATCH", "5 w90 CATCH CATCH", "5 DUP EXECUTE CATCH", "5 0|6", "|6"} {
			m := machineOf(stacks, fuelCodes()...)
			m.Fuel = maxFuel
			what := fmt.Sprint(token, " on ", stacks)
			whole, wholeThrow, wholeSteps := checkRun(t, what, m, wordOf(token))
			used := maxFuel - whole.Fuel
			for fuel := range used + 3 {
				m.Fuel = fuel
				got, throw, steps := checkRun(t, fmt.Sprint(what, " with fuel ", fuel), m, wordOf(token))
				if fuel >= used {
					whole.Fuel = fuel - used
					if throw != wholeThrow || steps != wholeSteps || !equalMachines(got, whole) {
						t.Errorf("%s ends otherwise with fuel %d: %s, %d, %d", what, fuel, machineText(got), throw, steps)
					}
				} else if throw != -101 || got.Fuel != 0 || got.Ip != 0 || len(got.Calls) > 0 || steps > wholeSteps {
					t.Errorf("%s takes %d, but with fuel %d it ends with %s, %d, %d", what, used, fuel, machineText(got), throw, steps)
				}
			}
		}
	}
}

func TestFuelEnds(t *testing.T) {
	endless := "(BRANCH) 20"
	for _, v := range []struct {
		fuel int
		runCase
	}{
		{0, runCase{"DUP", "5|6", "", -101, "5|6", 1, 0}},
		{0, runCase{"DUP", "", "", -101, "", 1, 0}},
		{0, runCase{"w86", "5|6", "EXIT", -101, "5|6", 1, 0}},
		{0, runCase{"EXIT", "5|6", "", -101, "5|6", 1, 0}},
		{0, runCase{"HASK", "5|6", "", -101, "5|6", 1, 0}},
		{0, runCase{"EXECUTE", "5 DUP", "", -101, "5 DUP", 1, 0}},
		{0, runCase{"CATCH", "5 DUP", "", -101, "5 DUP", 1, 0}},
		{0, runCase{"CATCH", "", "", -101, "", 1, 0}},
		{0, runCase{"THROW", "5", "", -101, "5", 1, 0}},
		{1, runCase{"DUP", "5|6", "", 0, "5 5|6", 1, 1}},
		{1, runCase{"DUP", "", "", -4, "", 1, 1}},
		{1, runCase{"w84", "", "", 0, "4104", 1, 1}},
		{1, runCase{"THROW", "5", "", 5, "5", 1, 1}},
		{1, runCase{"CATCH", "", "", -4, "", 1, 1}},
		{1, runCase{"CATCH", "5 0", "", -24, "5 0", 1, 1}},
		{1, runCase{"CATCH", "5 DUP|6", "", -101, "5|6", 1, 1}},
		{1, runCase{"EXECUTE", "5 DUP|6", "", -101, "5|6", 1, 1}},
		{1, runCase{"CATCH", "5 DUP CATCH|6", "", -101, "5 DUP|6", 1, 1}},
		{1, runCase{"w86", "5|6", "EXIT", -101, "5|6", 2, 1}},
		{2, runCase{"w86", "5|6", "EXIT", 0, "5|6", 2, 2}},
		{2, runCase{"w86", "5|6", "0", -24, "5|6", 2, 2}},
		{2, runCase{"w86", "5|6", "DUP", -101, "5 5|6", 3, 2}},
		{2, runCase{"CATCH", "5 DUP|6", "", 0, "5 5 0|6", 1, 2}},
		{2, runCase{"CATCH", "5 HASK|6", "", 0, "5 -100|6", 1, 2}},
		{2, runCase{"CATCH", "5 DUP CATCH|6", "", -101, "5|6", 1, 2}},
		{2, runCase{"CATCH", "5 w86|6", "EXIT", -101, "5|6", 2, 2}},
		{2, runCase{"CATCH", "1 0 / CATCH|6", "", -101, "1 0|6", 1, 2}},
		{3, runCase{"CATCH", "5 w86|6", "EXIT", 0, "5 0|6", 2, 3}},
		{3, runCase{"CATCH", "5 w86|6", "DUP EXIT", -101, "5 5|6", 3, 3}},
		{3, runCase{"CATCH", "1 0 / CATCH|6", "", 0, "1 0 -10 0|6", 1, 3}},
		{3, runCase{"w86", "5", "(LIT) 1 CATCH EXIT", -101, "5", 3, 3}},
		{4, runCase{"w86", "5", "(LIT) 1 CATCH EXIT", -101, "5 5 0", 4, 4}},
		{5, runCase{"w86", "5", "(LIT) 1 CATCH EXIT", 0, "5 5 0", 4, 5}},
		{someFuel, runCase{"w86", "5|6", "(LIT) 87 CATCH EXIT", -101, "5|6", someFuel, someFuel}},
		{someFuel, runCase{"CATCH", "5 w86 CATCH|6", ">R (LIT) 87 CATCH EXIT", -101, "|6 5", someFuel - 2, someFuel}},
		{maxFuel, runCase{"w87", "5|6", "", -101, "5|6", maxFuel + 1, maxFuel}},
		{maxFuel, runCase{"CATCH", "5 w87|6", "", -101, "5|6", maxFuel, maxFuel}},
	} {
		m := machineOf(v.before, v.code, endless)
		m.Fuel = v.fuel
		wantRunOf(t, m, v.runCase)
	}
}

// TestStepsWithoutFuel have every number as the next word, and calls that
// would catch anything else.
func TestStepsWithoutFuel(t *testing.T) {
	for number := -2; number <= wordNumbers+1; number++ {
		m := machineOf("5 6 0|1 2 3", fmt.Sprint("w", number))
		m.Calls, m.Ip, m.Fuel = []impl.Call{{Ip: 4, Catch: true}, {Ip: 5, Floor: 1}, {Ip: 6, Floor: 1, Depth: 2, Catch: true}, {Ip: 3, Floor: 2}}, 0, 0
		want := clonedMachine(m)
		want.Calls = nil
		got, throw, code := impl.StepMachine(m)
		if throw != -101 || code != impl.OK || !equalMachines(got, want) {
			t.Errorf("a step of %d without fuel leaves %s, %d, %d", number, machineText(got), throw, code)
		}
	}
}

// TestUnusedFuelIsKept has fuel that a script can only lose.
func TestUnusedFuelIsKept(t *testing.T) {
	for _, fuel := range []int{4, 5, 77, maxFuel - 1, maxFuel} {
		m := machineOf("5", "DUP * EXIT")
		m.Fuel = fuel
		got := wantRunOf(t, m, runCase{"w86", "5", "DUP * EXIT", 0, "25", 4, 4})
		if got.Fuel != fuel-4 {
			t.Errorf("%d of the fuel %d are left", got.Fuel, fuel)
		}
	}
}
