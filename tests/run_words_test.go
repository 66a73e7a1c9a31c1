package tests

// Promises 10 and 11, word by word: a word of each kind, with one cell too few,
// with exactly enough, and with each throw that the document names, in its
// order. wantRun also holds each run against its steps and the model.

import (
	"fmt"
	"slices"
	"strings"
	"testing"

	"loop.example/g00787/impl"
)

const (
	codeStep = 20  // the words of a test's machine begin this many cells apart
	startIp  = 7   // where such a machine is before a run, and thus after it
	someFuel = 100 // and its fuel
)

// codeOf reads cells, each of which is the name of a kernel word, w84 for the
// number 84, or a number.
func codeOf(text string) []int {
	var code []int
	for _, part := range strings.Fields(text) {
		code = append(code, wordOf(part))
	}
	return code
}

func wordOf(text string) int {
	if place := slices.Index(slices.Concat(kernelNames()...), text); place >= 0 {
		return place + 1
	}
	return numberOf(strings.TrimPrefix(text, "w"))
}

// stacksOf reads Stack and, behind a bar, Back, with words as codeOf has them.
func stacksOf(text string) ([]int, []int) {
	stack, back, _ := strings.Cut(text, "|")
	return codeOf(stack), codeOf(back)
}

// machineOf has the variable w84, the constant w85 and, from w86 on, a word for
// each of the codes. The last code ends with the code area. HASK is not
// granted.
func machineOf(stacks string, codes ...string) impl.Machine {
	m := impl.Machine{Words: kernelWords(), Data: dataOf(0, 0, 5), Host: hostOf(3, 5, 0, 1, 3), Ip: startIp, Fuel: someFuel}
	m.Data.Stack, m.Data.Back = stacksOf(stacks)
	m.Words = append(m.Words, impl.Word{Name: "var", Kind: impl.WdVar, Value: 4104}, impl.Word{Name: "const", Kind: impl.WdConst, Value: -6})
	for i, code := range codes {
		m.Words = append(m.Words, impl.Word{Name: fmt.Sprint("word", i), Kind: impl.WdColon, Value: i * codeStep})
		m.Code = append(m.Code, make([]int, i*codeStep-len(m.Code))...)
		m.Code = append(m.Code, codeOf(code)...)
	}
	return m
}

// runCase is a run, what it takes and what it leaves.
type runCase struct {
	token, before string
	code          string // of w86
	throw         int
	after         string
	steps, used   int
}

// wantRun returns the machine behind the run.
func wantRun(t *testing.T, v runCase, more ...string) impl.Machine {
	t.Helper()
	m := machineOf(v.before, append([]string{v.code}, more...)...)
	return wantRunOf(t, m, v)
}

func wantRunOf(t *testing.T, m impl.Machine, v runCase) impl.Machine {
	t.Helper()
	what := fmt.Sprintf("%s on %s with %q", v.token, v.before, v.code)
	got, throw, steps := checkRun(t, what, m, wordOf(v.token))
	stack, back := stacksOf(v.after)
	if throw != v.throw || !slices.Equal(got.Data.Stack, stack) || !slices.Equal(got.Data.Back, back) {
		t.Errorf("%s leaves %v | %v and throws %d, not %s and %d", what, got.Data.Stack, got.Data.Back, throw, v.after, v.throw)
	}
	if steps != v.steps || m.Fuel-got.Fuel != v.used {
		t.Errorf("%s has %d steps and uses %d, not %d and %d", what, steps, m.Fuel-got.Fuel, v.steps, v.used)
	}
	return got
}

// ofCells is a text of so many cells 1.
func ofCells(size int) string {
	return strings.Repeat(" 1", size)
}

func TestWordOfEachKind(t *testing.T) {
	for _, v := range []runCase{
		{"DUP", "5", "", 0, "5 5", 1, 1},
		{"DROP", "5|7", "", 0, "|7", 1, 1},
		{"+", "5 6", "", 0, "11", 1, 1},
		{"R>", "|5 6", "", 0, "6|5", 1, 1},
		{"UNLOOP", "|5 6 7", "", 0, "|5", 1, 1},
		{"DUP", "", "", -4, "", 1, 1},
		{"/", "5 0", "", -10, "5 0", 1, 1},
		{"@", "4", "", -9, "4", 1, 1},
		{"R>", "5", "", -6, "5", 1, 1},
		{"HTIME", "5", "", 0, "5 1234", 1, 1},
		{"HREAD", "5", "", 0, fmt.Sprint(filled(storeSize)[5]), 1, 1},
		{"HWRITE", "5 6 7", "", 0, "5", 1, 1},
		{"HASK", "5", "", -100, "5", 1, 1},
		{"HASK", "", "", -100, "", 1, 1},
		{"HREAD", "", "", -4, "", 1, 1},
		{"HREAD", "5 8", "", -9, "5 8", 1, 1},
		{"HWRITE", "6", "", -4, "6", 1, 1},
		{"HTIME", ofCells(32), "", -3, ofCells(32), 1, 1},
		{"w84", "5", "", 0, "5 4104", 1, 1},
		{"w85", "5", "", 0, "5 -6", 1, 1},
		{"w84", ofCells(31), "", 0, ofCells(31) + " 4104", 1, 1},
		{"w84", ofCells(32), "", -3, ofCells(32), 1, 1},
		{"w85", ofCells(32), "", -3, ofCells(32), 1, 1},
		{"w86", "5", "DUP * EXIT", 0, "25", 4, 4},
		{"w86", "", "EXIT", 0, "", 2, 2},
		{"w86", "", "DUP EXIT", -4, "", 2, 2},
		{"w86", "", "w84 w85 EXIT", 0, "4104 -6", 4, 4},
		{"w86", "5 3", "HWRITE (LIT) 3 HREAD HTIME EXIT", 0, "5 1234", 6, 6},
		{"w86", "5", "DUP HASK EXIT", -100, "5 5", 3, 3},
	} {
		wantRun(t, v)
	}
}

// TestNumbersThatAreNoWords has them in the code, at each place.
func TestNumbersThatAreNoWords(t *testing.T) {
	for _, n := range []int{minCell, -86, -1, 0, 67, 68, 75, 82, 83, 87, 88, 103, 104, maxCell} {
		wantRun(t, runCase{"w86", "5", fmt.Sprint(n), -24, "5", 2, 2})
		wantRun(t, runCase{"w86", "5", fmt.Sprint("DUP ", n, " EXIT"), -24, "5 5", 3, 3})
	}
	wantRun(t, runCase{"w86", "5", "DUP", -24, "5 5", 3, 3})
	wantRun(t, runCase{"w86", "5", "", -24, "5", 2, 2})
	m := machineOf("5", "DUP EXIT")
	for _, start := range []int{2, 3, 200, 399} {
		m.Words[85].Value = start
		wantRunOf(t, m, runCase{"w86", "5", fmt.Sprint("no code at ", start), -24, "5", 2, 2})
	}
}

func TestExit(t *testing.T) {
	for _, v := range []runCase{
		{"EXIT", "5", "", -14, "5", 1, 1},
		{"EXIT", "5|6", "", -14, "5|6", 1, 1},
		{"w86", "5|6", "EXIT", 0, "5|6", 2, 2},
		{"w86", "5|6", "DUP >R EXIT", -25, "5|6 5", 4, 4},
		{"w86", "5 4|6", "(DO) EXIT", -25, "|6 5 4", 3, 3},
		{"w86", "5|6", ">R R> EXIT", 0, "5|6", 4, 4},
		{"w86", "5 53|6", "EXECUTE DUP", 0, "5|6", 2, 3},
		{"w86", "5 53|6", ">R R@ EXECUTE DUP", -25, "5|6 53", 4, 5},
		{"EXECUTE", "53", "", -14, "", 1, 2},
	} {
		wantRun(t, v)
	}
}

func TestExecute(t *testing.T) {
	for _, v := range []runCase{
		{"EXECUTE", "", "EXIT", -4, "", 1, 1},
		{"EXECUTE", "5 DUP", "EXIT", 0, "5 5", 1, 2},
		{"EXECUTE", "DUP", "EXIT", -4, "", 1, 2},
		{"EXECUTE", "5 EXECUTE", "EXIT", -4, "", 1, 3}, // 5 is ROT
		{"EXECUTE", "5 DUP EXECUTE EXECUTE", "EXIT", 0, "5 5", 1, 4},
		{"EXECUTE", "EXECUTE", "EXIT", -4, "", 1, 2},
		{"EXECUTE", "5 w86", "DUP EXIT", 0, "5 5", 3, 4},
		{"EXECUTE", "w84", "EXIT", 0, "4104", 1, 2},
		{"EXECUTE", "w85", "EXIT", 0, "-6", 1, 2},
		{"EXECUTE", "9 HASK", "EXIT", -100, "9", 1, 2},
		{"EXECUTE", "9 THROW", "EXIT", 9, "9", 1, 2},
		{"EXECUTE", "9 0 THROW", "EXIT", 0, "9", 1, 2},
		{"EXECUTE", ofCells(31) + " DUP", "EXIT", 0, ofCells(32), 1, 2},
		{"w86", "5 w87", "EXECUTE DUP EXIT", 0, "25 25", 7, 8},
	} {
		wantRun(t, v, "DUP * EXIT")
	}
}

// TestTokensOfExecuteAndCatch has tops that neither of them takes from Stack.
func TestTokensOfExecuteAndCatch(t *testing.T) {
	m := machineOf("", "EXIT")
	for _, n := range notTokens(m.Words) {
		if n < minCell || n > maxCell {
			continue
		}
		for _, token := range []string{"EXECUTE", "CATCH"} {
			stacks := fmt.Sprint("5 ", n, "|6")
			wantRun(t, runCase{token, stacks, "EXIT", -24, stacks, 1, 1})
			wantRun(t, runCase{"w86", stacks, token + " EXIT", -24, stacks, 2, 2})
		}
	}
}

func TestThrow(t *testing.T) {
	for _, v := range []runCase{
		{"THROW", "", "", -4, "", 1, 1},
		{"THROW", "0", "", 0, "", 1, 1},
		{"THROW", "9 0|8", "", 0, "9|8", 1, 1},
		{"THROW", "9 5|8", "", 5, "9 5|8", 1, 1},
		{"THROW", "-4", "", -4, "-4", 1, 1},
		{"THROW", "-100", "", -100, "-100", 1, 1},
		{"THROW", "-101", "", -24, "-101", 1, 1},
		{"THROW", "9 -101|8", "", -24, "9 -101|8", 1, 1},
		{"THROW", "-102", "", -102, "-102", 1, 1},
		{"THROW", fmt.Sprint(minCell), "", minCell, fmt.Sprint(minCell), 1, 1},
		{"THROW", fmt.Sprint(maxCell), "", maxCell, fmt.Sprint(maxCell), 1, 1},
		{"w86", "9 0", "THROW DUP EXIT", 0, "9 9", 4, 4},
		{"w86", "9 7", "THROW DUP EXIT", 7, "9 7", 2, 2},
		{"w86", "9 -101", "THROW DUP EXIT", -24, "9 -101", 2, 2},
		{"w86", "9 0", "w87 EXIT", 0, "9", 5, 5},
		{"w86", "9 7|6", "w87 EXIT", 7, "9 7|6", 3, 3},
	} {
		wantRun(t, v, "THROW EXIT")
	}
}

func TestInnerWordsOnStack(t *testing.T) {
	low, high := fmt.Sprint(minCell), fmt.Sprint(maxCell)
	for _, v := range []runCase{
		{"w86", "5", "(LIT) 6 EXIT", 0, "5 6", 3, 3},
		{"w86", "", "(LIT) " + low + " (LIT) " + high + " EXIT", 0, low + " " + high, 4, 4},
		{"w86", "", "(LIT) 53 (LIT) 57 (LIT) 0 EXIT", 0, "53 57 0", 5, 5},
		{"w86", ofCells(31), "(LIT) 6 EXIT", 0, ofCells(31) + " 6", 3, 3},
		{"w86", ofCells(32), "(LIT) 6 EXIT", -3, ofCells(32), 2, 2},
		{"w86", "5", "(BRANCH) 4 DUP DUP DUP EXIT", 0, "5 5", 4, 4},
		{"w86", "", "(0BRANCH) 2 EXIT", -4, "", 2, 2},
		{"w86", "5 0", "(0BRANCH) 4 DUP DUP DUP EXIT", 0, "5 5", 4, 4},
		{"w86", "5 1", "(0BRANCH) 4 DUP DUP DUP EXIT", 0, "5 5 5 5", 6, 6},
		{"w86", "5 " + low, "(0BRANCH) 4 DUP DUP EXIT", 0, "5 5 5", 5, 5},
		{"w86", "0", "(0BRANCH) 2 EXIT", 0, "", 3, 3},
		{"w86", "", "(DO) EXIT", -4, "", 2, 2},
		{"w86", "5", "(DO) EXIT", -4, "5", 2, 2},
		{"w86", "5 6|7", "(DO) R> R> EXIT", 0, "6 5|7", 5, 5},
		{"w86", "4 5 6|7", "(DO) UNLOOP EXIT", 0, "4|7", 4, 4},
		{"w86", "4 5 6|" + ofCells(30), "(DO) UNLOOP EXIT", 0, "4|" + ofCells(30), 4, 4},
		{"w86", "4 5 6|" + ofCells(31), "(DO) EXIT", -5, "4 5 6|" + ofCells(31), 2, 2},
		{"w86", "4 5 6|" + ofCells(32), "(DO) EXIT", -5, "4 5 6|" + ofCells(32), 2, 2},
		{"w86", "6|" + ofCells(32), "(DO) EXIT", -4, "6|" + ofCells(32), 2, 2},
		{"w86", "|" + ofCells(32), "(DO) EXIT", -4, "|" + ofCells(32), 2, 2},
	} {
		wantRun(t, v)
	}
}

// TestMissingOperands has each of them at the end of the code, where a throw
// of the stacks would hold too.
func TestMissingOperands(t *testing.T) {
	for _, name := range strings.Fields("(LIT) (BRANCH) (0BRANCH) (LOOP) (+LOOP)") {
		for _, stacks := range []string{"", "0", "5", ofCells(32) + "|" + ofCells(32), "5|6", "0 0|7 8"} {
			wantRun(t, runCase{"w86", stacks, name, -24, stacks, 2, 2})
		}
		wantRun(t, runCase{"w86", "3 2 0", "(DO) " + name, -24, "3|2 0", 3, 3})
	}
	wantRun(t, runCase{"w86", "3 2 0", "(DO)", -24, "3|2 0", 3, 3})
}

// TestFloorOfEachPrimitive runs every primitive with so many cells on Back
// below and above the floor of a call.
func TestFloorOfEachPrimitive(t *testing.T) {
	for _, name := range primNames() {
		for below := range 3 {
			for above := range 4 {
				m := machineOf("4100 2 3"+strings.Repeat(" 4096", above)+"|"+ofCells(below), strings.Repeat(">R ", above)+name+" EXIT")
				d, want := primResult(movedToBack(m.Data, above), name, below)
				if want == 0 && len(d.Back) != below {
					want = -25
				}
				what := fmt.Sprint(name, " with ", below, " cells below the floor and ", above, " above")
				_, throw, _ := checkRun(t, what, m, 86)
				if throw != want {
					t.Errorf("%s throws %d, not %d", what, throw, want)
				}
			}
		}
	}
}

// movedToBack moves so many cells from Stack to Back.
func movedToBack(d impl.Data, count int) impl.Data {
	d = clonedData(d)
	for range count {
		last := len(d.Stack) - 1
		d.Back = append(d.Back, d.Stack[last])
		d.Stack = d.Stack[:last]
	}
	return d
}

func TestFloor(t *testing.T) {
	for _, v := range []runCase{
		{"w86", "|9", "R> EXIT", -6, "|9", 2, 2},
		{"w86", "|9", "R@ EXIT", -6, "|9", 2, 2},
		{"w86", "|9", "I EXIT", -6, "|9", 2, 2},
		{"w86", "5|9", ">R R@ R> EXIT", 0, "5 5|9", 5, 5},
		{"w86", "5|9", ">R UNLOOP EXIT", -6, "|9 5", 3, 3},
		{"w86", "5|8 9", "UNLOOP EXIT", -6, "5|8 9", 2, 2},
		{"w86", "5 6|9", ">R >R UNLOOP EXIT", 0, "|9", 5, 5},
		{"w86", "|8 9", "(LOOP) 0 EXIT", -6, "|8 9", 2, 2},
		{"w86", "5|8 9", ">R (LOOP) 0 EXIT", -6, "|8 9 5", 3, 3},
		{"w86", "5 4|8 9", ">R (+LOOP) 0 EXIT", -6, "|8 9 4", 3, 3},
		{"w86", "5", ">R w87 EXIT", -6, "|5", 4, 4},
		{"w86", "5 6", ">R w88 R> EXIT", 0, "5 6", 8, 8},
		{"EXECUTE", "R>|9", "", 0, "9|", 1, 2},
		{"CATCH", "R>|9", "", 0, "-6|9", 1, 2},
		{"CATCH", "UNLOOP|8 9", "", 0, "-6|8 9", 1, 2},
		{"w86", "5 R@|9", "EXECUTE EXIT", -6, "5|9", 2, 3},
		{"w86", "5 R@|9", "SWAP >R EXECUTE R> EXIT", 0, "5 5|9", 6, 7},
	} {
		wantRun(t, v, "R> EXIT", ">R R> EXIT")
	}
}
