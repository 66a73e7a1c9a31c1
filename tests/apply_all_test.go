package tests

// Promise 6 for several primitives: they are executed in order, each on the
// data of the one before it, up to the first throw.

import (
	"fmt"
	"slices"
	"strings"
	"testing"

	"loop.example/g00787/impl"
)

func primsOf(names string) []int {
	var list []int
	for _, name := range strings.Fields(names) {
		list = append(list, primOf(name))
	}
	return list
}

// wantAll checks ApplyAll with valid arguments.
func wantAll(t *testing.T, d impl.Data, prims []int, want impl.Data, wantDone, wantThrow int) {
	t.Helper()
	got, done, throw, code := impl.ApplyAll(d, prims)
	if done != wantDone {
		t.Errorf("ApplyAll %v executes %d, not %d", prims, done, wantDone)
	}
	wantData(t, fmt.Sprint("ApplyAll ", prims), got, want, throw, wantThrow, code)
}

func TestApplyAll(t *testing.T) {
	for _, v := range []struct {
		names, before, after string
		done, throw          int
	}{
		{"", "1 2|3", "1 2|3", 0, 0},
		{"DUP", "1 2|3", "1 2 2|3", 1, 0},
		{"+ DUP * NEGATE", "1 2|3", "-9|3", 4, 0},
		{">R >R R> R> SWAP", "1 2|3", "2 1|3", 5, 0},
		{"R> R@", "1 2|3 4", "1 2 4 3|3", 2, 0},
		{"R> R> DEPTH", "1 2|3 4", "1 2 4 3 4|", 3, 0},
		{"UNLOOP", "1|3 4", "1|", 1, 0},
		{"ROT DUP DUP", "1 2|3", "1 2|3", 0, -4},
		{"DUP / DROP", "1 0|3", "1 0 0|3", 1, -10},
		{"1+ 1+ @ DROP DUP", "1 2|3", "1 4|3", 2, -9},
		{"DUP DROP DROP DROP DROP", "1 2|3", "|3", 4, -4},
		{"1+ R> R>", "1 2|3", "1 3 3|", 2, -6},
		{"DROP DROP DROP", "|3", "|3", 0, -4},
	} {
		d := dataOf(0, 0, 5)
		d.Stack, d.Back = twoStacks(v.before)
		want := clonedData(d)
		want.Stack, want.Back = twoStacks(v.after)
		wantAll(t, d, primsOf(v.names), want, v.done, v.throw)
	}
}

func TestApplyAllOnCellsAndOutput(t *testing.T) {
	d := impl.NewData()
	d.Stack, d.Out = []int{5, 7}, "so "
	got, done, throw, code := impl.ApplyAll(d, primsOf("HERE >R , , HEX R@ @ . SPACE R> DUP @ SWAP +! HERE . /"))
	want := impl.NewData()
	want.Here, want.Base, want.Out = 2, 16, "so 7  1008 "
	want.Cells[0], want.Cells[1] = 14, 5
	if done != 16 {
		t.Errorf("%d primitives are executed", done)
	}
	wantData(t, "ApplyAll", got, want, throw, -4, code)
}

// TestApplyAllEqualsItsPrims compares fixed mixtures of primitives with the
// effects that primResult has one by one.
func TestApplyAllEqualsItsPrims(t *testing.T) {
	n := 987
	for i := range 4000 {
		d := dataOf(i%20, i%7, i%maxCells)
		for k := range d.Stack {
			d.Stack[k] = operandCells()[(i+7*k)%len(operandCells())]
		}
		var prims []int
		for range i % 40 {
			n = (n*1103515245 + 12345) % (1 << 31)
			prims = append(prims, (n>>8)%primCount+1)
		}
		want, wantDone, wantThrow := clonedData(d), 0, 0
		for _, prim := range prims {
			want, wantThrow = primResult(want, primNames()[prim-1], 0)
			if wantThrow != 0 {
				break
			}
			wantDone++
		}
		wantAll(t, d, prims, want, wantDone, wantThrow)
	}
}

func TestApplyAllUpToMaxList(t *testing.T) {
	d := dataOf(3, 2, 5)
	d.Stack[2] = 0
	prims := slices.Repeat([]int{primOf("1+")}, impl.MaxList)
	want := clonedData(d)
	want.Stack[2] = impl.MaxList
	wantAll(t, d, prims, want, impl.MaxList, 0)
	prims[impl.MaxList-1] = primOf("@")
	want.Stack[2] = impl.MaxList - 1
	wantAll(t, d, prims, want, impl.MaxList-1, -9)
	prims[0] = primOf("@")
	wantAll(t, d, prims, d, 0, -9)
}

func wantAllCode(t *testing.T, what string, d impl.Data, prims []int, wanted int) {
	t.Helper()
	if got, done, throw, code := impl.ApplyAll(d, prims); code != wanted || done != 0 || throw != 0 || !isZeroData(got) {
		t.Errorf("%s: ApplyAll = %v, %d, %d, %d, not the code %d", what, got, done, throw, code, wanted)
	}
}

func TestApplyAllWithTooManyPrims(t *testing.T) {
	for _, prim := range []int{1, 0, 53, minInt} {
		for _, size := range []int{impl.MaxList + 1, 2 * impl.MaxList} {
			prims := slices.Repeat([]int{prim}, size)
			for i, d := range append(validData(), badData()...) {
				wantAllCode(t, fmt.Sprint("too many of ", prim, " on data ", i), d, prims, impl.ErrLong)
			}
		}
	}
}

func TestApplyAllOnInvalidData(t *testing.T) {
	for i, bad := range badData() {
		for _, prims := range [][]int{nil, {}, {1}, {1, 2, 3}, {0}, {53}, {1, minInt}, slices.Repeat([]int{1}, impl.MaxList)} {
			wantAllCode(t, fmt.Sprint("invalid data ", i), bad, prims, impl.ErrBad)
		}
	}
}

func TestApplyAllWithAnElementThatIsNoPrim(t *testing.T) {
	drop := primOf("DROP")
	for _, wrong := range notPrims() {
		for i, prims := range [][]int{{wrong}, {drop, wrong}, {wrong, drop}, {drop, wrong, drop}, {drop, drop, drop, drop, wrong}, append(slices.Repeat([]int{drop}, impl.MaxList-1), wrong)} {
			// The second data throws at the first DROP, ahead of the element.
			for _, d := range []impl.Data{dataOf(3, 2, 5), dataOf(0, 2, 5), impl.NewData()} {
				wantAllCode(t, fmt.Sprint("list ", i, " with ", wrong), d, prims, impl.ErrKind)
			}
		}
	}
}
