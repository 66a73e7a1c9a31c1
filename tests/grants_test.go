package tests

// Promise 15, the capabilities that are granted before an action.

import (
	"slices"
	"testing"

	"loop.example/g00787/impl"
)

func TestGrantsAt(t *testing.T) {
	acts := []impl.Act{grant(2), eval("zap"), grant(0), revoke(2), refuel(5), grant(2), revoke(3), revoke(0), grant(0), grant(0), grant(3), revoke(3)}
	want := [][]bool{
		{false, false, false, false},
		{false, false, true, false},
		{false, false, true, false},
		{true, false, true, false},
		{true, false, false, false},
		{true, false, false, false},
		{true, false, true, false},
		{true, false, true, false},
		{false, false, true, false},
		{true, false, true, false},
		{true, false, true, false},
		{true, false, true, true},
		{true, false, true, false},
	}
	for place, granted := range want {
		wantGrants(t, acts, place, granted)
	}
	runActs(t, acts)
}

// TestGrantsOfEveryCapability grants, revokes and grants each of them anew.
func TestGrantsOfEveryCapability(t *testing.T) {
	for c := range capCount {
		granted := func(yes bool) []bool {
			list := make([]bool, capCount)
			list[c] = yes
			return list
		}
		acts := []impl.Act{grant(c), revoke(c), grant(c), grant(c), revoke(c), revoke(c), tick(1), grant(c)}
		for place, yes := range []bool{false, true, false, true, true, false, false, false, true} {
			wantGrants(t, acts, place, granted(yes))
		}
		all := []impl.Act{grant(0), grant(1), grant(2), grant(3), revoke(c)}
		want := slices.Repeat([]bool{true}, capCount)
		wantGrants(t, all, 4, want)
		want[c] = false
		wantGrants(t, all, 5, want)
	}
}

// TestNumbersOfOtherActions have nothing to do with capabilities.
func TestNumbersOfOtherActions(t *testing.T) {
	acts := []impl.Act{answer(0), answer(1), answer(2), answer(3), refuel(1), refuel(2), refuel(3), tick(1), tick(2), tick(3), eval("")}
	for place := range len(acts) + 1 {
		wantGrants(t, acts, place, make([]bool, capCount))
	}
	acts = append([]impl.Act{grant(0), grant(1), grant(2), grant(3)}, acts...)
	for place := capCount; place <= len(acts); place++ {
		wantGrants(t, acts, place, slices.Repeat([]bool{true}, capCount))
	}
}

func TestGrantsAtNoPlace(t *testing.T) {
	for _, acts := range append(someSessions(), slices.Repeat([]impl.Act{grant(1)}, maxActs)) {
		for _, place := range []int{minInt, minCell, -2, -1, len(acts) + 1, len(acts) + 2, maxActs + 1, impl.MaxList, maxCell, 1 << 32, maxInt} {
			if granted, code := impl.GrantsAt(acts, place); code != impl.ErrRange || len(granted) > 0 {
				t.Errorf("GrantsAt of %s at %d = %v, %d", actsText(acts), place, granted, code)
			}
		}
		for place := range len(acts) + 1 {
			if granted, code := impl.GrantsAt(acts, place); code != impl.OK || len(granted) != capCount {
				t.Errorf("GrantsAt of %s at %d = %v, %d", actsText(acts), place, granted, code)
			}
		}
	}
}

// TestScriptsGrantNothing has lines that would like to.
func TestScriptsGrantNothing(t *testing.T) {
	acts := []impl.Act{refuel(maxFuel), grant(1), eval("1 0 hwrite 1 1 hwrite 5 2 hwrite"), eval("grant 3"), eval("variable v 1 v ! 3 v +!"), eval("' hread catch"), eval("zap"), revoke(1), eval("1 0 hwrite"), eval(": a ['] hwrite catch ; 1 1 a")}
	for place := range len(acts) + 1 {
		wantGrants(t, acts, place, []bool{false, place > 1 && place < 8, false, false})
	}
	runActs(t, acts)
}
