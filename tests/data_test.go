package tests

// Promise 4: a pushed cell is popped and a stored cell is fetched, and nothing
// else changes; newly allotted cells are 0. What a function should return is
// worked out here a second time, on data that the test fills itself.

import (
	"fmt"
	"slices"
	"strings"
	"testing"

	"loop.example/g00787/impl"
)

const (
	maxStack = 32
	maxCells = 32
	maxOut   = 300
	dataBase = 4096
)

// filled has cells all of which differ from 0 and from each other, with the
// extreme cells at the ends.
func filled(size int) []int {
	list := make([]int, size)
	for i := range list {
		list[i] = 1000*size + i + 1
	}
	if size > 0 {
		list[0] = maxCell
		list[size-1] = minCell
	}
	return list
}

// dataOf has Cells without a 0, also behind the ones that are allotted.
func dataOf(stack, back, here int) impl.Data {
	return impl.Data{Stack: filled(stack), Back: filled(back), Cells: filled(maxCells), Here: here, Base: 10, Out: "out"}
}

func validData() []impl.Data {
	list := []impl.Data{impl.NewData()}
	for _, size := range []int{0, 1, 2, maxStack - 1, maxStack} {
		for _, here := range []int{0, 1, 5, maxCells - 1, maxCells} {
			list = append(list, dataOf(size, maxStack-size, here), dataOf(size, size, here))
		}
	}
	for _, base := range []int{2, 3, 15, 16} {
		d := dataOf(3, 2, 4)
		d.Base = base
		list = append(list, d)
	}
	for _, out := range []string{"", "\x00", "\xff\xfe", strings.Repeat("o", maxOut-1), strings.Repeat("o", maxOut)} {
		d := dataOf(4, 3, 6)
		d.Out = out
		list = append(list, d)
	}
	zeros := dataOf(maxStack, maxStack, 7)
	zeros.Stack, zeros.Back = make([]int, maxStack), make([]int, maxStack)
	return append(list, zeros)
}

// badData has data that is valid but for one field.
func badData() []impl.Data {
	var list []impl.Data
	turned := func(turn func(d *impl.Data)) {
		d := dataOf(3, 2, 4)
		turn(&d)
		list = append(list, d)
	}
	for _, size := range []int{maxStack + 1, 2 * maxStack, impl.MaxList + 1} {
		turned(func(d *impl.Data) { d.Stack = make([]int, size) })
		turned(func(d *impl.Data) { d.Back = make([]int, size) })
	}
	for _, size := range []int{0, 1, maxCells - 1, maxCells + 1, impl.MaxList + 1} {
		turned(func(d *impl.Data) { d.Cells = make([]int, size) })
	}
	turned(func(d *impl.Data) { d.Cells = nil })
	for _, n := range notCells() {
		for place := range 2 {
			turned(func(d *impl.Data) { d.Stack[place*2] = n })
			turned(func(d *impl.Data) { d.Back[place] = n })
			turned(func(d *impl.Data) { d.Cells[place*(maxCells-1)] = n })
		}
	}
	for _, here := range []int{minInt, minCell, -1, maxCells + 1, maxCell, maxInt} {
		turned(func(d *impl.Data) { d.Here = here })
	}
	for _, base := range []int{minInt, -10, -1, 0, 1, 17, maxCell, maxInt} {
		turned(func(d *impl.Data) { d.Base = base })
	}
	for _, size := range []int{maxOut + 1, impl.MaxText, impl.MaxText + 1} {
		turned(func(d *impl.Data) { d.Out = strings.Repeat("o", size) })
	}
	return append(list, impl.Data{})
}

// equalData does not rely on SameData.
func equalData(a, b impl.Data) bool {
	return slices.Equal(a.Stack, b.Stack) && slices.Equal(a.Back, b.Back) && slices.Equal(a.Cells, b.Cells) &&
		a.Here == b.Here && a.Base == b.Base && a.Out == b.Out
}

func isZeroData(d impl.Data) bool {
	return equalData(d, impl.Data{})
}

func clonedData(d impl.Data) impl.Data {
	d.Stack, d.Back, d.Cells = slices.Clone(d.Stack), slices.Clone(d.Back), slices.Clone(d.Cells)
	return d
}

// wantData checks the results of a function that returns data and a throw.
func wantData(t *testing.T, what string, got, want impl.Data, throw, wantThrow, code int) {
	t.Helper()
	if code != impl.OK || throw != wantThrow || !equalData(got, want) {
		t.Errorf("%s = %v, %d, %d, not %v, %d", what, got, throw, code, want, wantThrow)
	}
}

func TestNewData(t *testing.T) {
	want := impl.Data{Cells: make([]int, maxCells), Base: 10}
	if got := impl.NewData(); !equalData(got, want) {
		t.Errorf("NewData() = %v", got)
	}
}

func TestDataOK(t *testing.T) {
	for i, d := range validData() {
		if !impl.DataOK(d) {
			t.Errorf("valid data %d is refused: %v", i, d)
		}
	}
	for i, d := range badData() {
		if impl.DataOK(d) {
			t.Errorf("invalid data %d is accepted: %v", i, d)
		}
	}
}

// variants has data that differs from d in one field each, and is valid if d
// has one cell at least on each stack.
func variants(d impl.Data) []impl.Data {
	var list []impl.Data
	turned := func(turn func(d *impl.Data)) {
		other := clonedData(d)
		turn(&other)
		list = append(list, other)
	}
	turned(func(d *impl.Data) { d.Stack[0]-- })
	turned(func(d *impl.Data) { d.Stack[len(d.Stack)-1]++ })
	turned(func(d *impl.Data) { d.Stack = d.Stack[1:] })
	turned(func(d *impl.Data) { d.Stack = d.Stack[:len(d.Stack)-1] })
	turned(func(d *impl.Data) { d.Back[0]-- })
	turned(func(d *impl.Data) { d.Back[len(d.Back)-1]++ })
	turned(func(d *impl.Data) { d.Back = d.Back[1:] })
	turned(func(d *impl.Data) { d.Back = d.Back[:len(d.Back)-1] })
	turned(func(d *impl.Data) { d.Cells[0]-- })
	turned(func(d *impl.Data) { d.Cells[maxCells-1]++ })
	turned(func(d *impl.Data) { d.Here++ })
	turned(func(d *impl.Data) { d.Base = 16 })
	turned(func(d *impl.Data) { d.Out = "ouT" })
	turned(func(d *impl.Data) { d.Out = "out " })
	return list
}

func TestSameData(t *testing.T) {
	for i, a := range validData() {
		if !impl.SameData(a, clonedData(a)) {
			t.Errorf("valid data %d is not the same as its copy", i)
		}
		for k, b := range validData() {
			if impl.SameData(a, b) != equalData(a, b) {
				t.Errorf("SameData of %v and %v", i, k)
			}
		}
	}
	d := dataOf(3, 4, 5)
	for i, other := range variants(d) {
		if !impl.DataOK(other) {
			t.Fatalf("variant %d is not valid", i)
		}
		if impl.SameData(d, other) || impl.SameData(other, d) {
			t.Errorf("variant %d passes for the same: %v", i, other)
		}
	}
}

func TestSameDataTakesNilForEmpty(t *testing.T) {
	a, b := impl.NewData(), impl.NewData()
	a.Stack, a.Back = nil, []int{}
	b.Stack, b.Back = []int{}, nil
	if !impl.SameData(a, b) {
		t.Error("nil is not the same as an empty stack")
	}
}

func TestSameDataRefusesInvalidData(t *testing.T) {
	for i, bad := range badData() {
		if impl.SameData(bad, bad) || impl.SameData(bad, clonedData(bad)) || impl.SameData(bad, impl.NewData()) || impl.SameData(impl.NewData(), bad) {
			t.Errorf("invalid data %d is the same as something", i)
		}
	}
}

func TestPushedCellIsPopped(t *testing.T) {
	for i, d := range validData() {
		for _, n := range cells() {
			got, throw, code := impl.Push(d, n)
			if len(d.Stack) == maxStack {
				wantData(t, fmt.Sprint("Push ", i, n), got, d, throw, -3, code)
				continue
			}
			want := clonedData(d)
			want.Stack = append(want.Stack, n)
			wantData(t, fmt.Sprint("Push ", i, n), got, want, throw, 0, code)
			back, top, throw, code := impl.Pop(got)
			wantData(t, fmt.Sprint("Pop ", i, n), back, d, throw, 0, code)
			if top != n {
				t.Errorf("%d is pushed, %d is popped", n, top)
			}
		}
	}
}

func TestPop(t *testing.T) {
	for i, d := range validData() {
		got, top, throw, code := impl.Pop(d)
		last := len(d.Stack) - 1
		if last < 0 {
			wantData(t, fmt.Sprint("Pop ", i), got, d, throw, -4, code)
			if top != 0 {
				t.Errorf("there is a top beside a throw: %d", top)
			}
			continue
		}
		want := clonedData(d)
		want.Stack = want.Stack[:last]
		wantData(t, fmt.Sprint("Pop ", i), got, want, throw, 0, code)
		if top != d.Stack[last] {
			t.Errorf("Pop %d yields %d", i, top)
		}
	}
}

// addresses has every number around the cells, so also those between two of
// them, and numbers far away that differ from an address by a power of 2.
func addresses() []int {
	list := []int{minInt, minInt + 1, minInt + dataBase, minInt + dataBase - 4, maxInt, maxInt - 3, minCell, maxCell, -dataBase, -4, -1, 0, 1, 4, 1 << 32, 1<<32 + dataBase, -(1 << 32) + dataBase, 1<<62 + dataBase, minInt + dataBase + 4}
	for at := dataBase - 9; at <= dataBase+4*maxCells+9; at++ {
		list = append(list, at)
	}
	return list
}

// placeOf counts the addresses up instead of computing the place of one.
func placeOf(d impl.Data, at int) int {
	address := dataBase
	for place := range d.Here {
		if address == at {
			return place
		}
		address += 4
	}
	return -1
}

func TestStoredCellIsFetched(t *testing.T) {
	for i, d := range validData() {
		for _, at := range addresses() {
			for _, n := range []int{minCell, -1, 0, 77, maxCell} {
				what := fmt.Sprint("Store ", i, at, n)
				got, throw, code := impl.Store(d, at, n)
				place := placeOf(d, at)
				if place < 0 {
					wantData(t, what, got, d, throw, -9, code)
					continue
				}
				want := clonedData(d)
				want.Cells[place] = n
				wantData(t, what, got, want, throw, 0, code)
				if back, throw, code := impl.Fetch(got, at); back != n || throw != 0 || code != impl.OK {
					t.Errorf("%s is fetched as %d, %d, %d", what, back, throw, code)
				}
			}
		}
	}
}

func TestFetch(t *testing.T) {
	for i, d := range validData() {
		for _, at := range addresses() {
			want, wantThrow := 0, -9
			if place := placeOf(d, at); place >= 0 {
				want, wantThrow = d.Cells[place], 0
			}
			if n, throw, code := impl.Fetch(d, at); n != want || throw != wantThrow || code != impl.OK {
				t.Errorf("Fetch of data %d at %d = %d, %d, %d, not %d, %d", i, at, n, throw, code, want, wantThrow)
			}
		}
	}
}

func TestAddressesAtTheEnds(t *testing.T) {
	for _, v := range []struct{ here, at, throw int }{
		{0, 4096, -9},
		{1, 4095, -9}, {1, 4092, -9}, {1, 4096, 0}, {1, 4097, -9}, {1, 4099, -9}, {1, 4100, -9},
		{31, 4216, 0}, {31, 4220, -9},
		{32, 4220, 0}, {32, 4221, -9}, {32, 4223, -9}, {32, 4224, -9}, {32, 4228, -9},
	} {
		d := dataOf(1, 1, v.here)
		if _, throw, code := impl.Fetch(d, v.at); throw != v.throw || code != impl.OK {
			t.Errorf("Fetch at %d of %d cells throws %d, %d", v.at, v.here, throw, code)
		}
		if _, throw, code := impl.Store(d, v.at, 5); throw != v.throw || code != impl.OK {
			t.Errorf("Store at %d of %d cells throws %d, %d", v.at, v.here, throw, code)
		}
	}
}

// allotted is what AllotCells should return, cell by cell.
func allotted(d impl.Data, n int) (impl.Data, int) {
	want := clonedData(d)
	for n >= 4 && want.Here < maxCells {
		want.Cells[want.Here] = 0
		want.Here++
		n -= 4
	}
	for n <= -4 && want.Here > 0 {
		want.Here--
		n += 4
	}
	if n != 0 {
		return d, -8
	}
	return want, 0
}

func TestAllotCells(t *testing.T) {
	numbers := []int{minCell, minCell + 1, minCell + 3, minCell + 4, -1 << 30, -400, 400, 1 << 30, maxCell - 3, maxCell - 1, maxCell}
	for n := -4*maxCells - 9; n <= 4*maxCells+9; n++ {
		numbers = append(numbers, n)
	}
	for i, d := range validData() {
		for _, n := range numbers {
			want, wantThrow := allotted(d, n)
			got, throw, code := impl.AllotCells(d, n)
			wantData(t, fmt.Sprint("AllotCells ", i, n), got, want, throw, wantThrow, code)
		}
	}
}

func TestAllotCellsAtTheEnds(t *testing.T) {
	for _, v := range []struct{ here, n, newHere, throw int }{
		{0, 0, 0, 0}, {0, -4, 0, -8}, {0, 128, 32, 0}, {0, 132, 0, -8}, {0, 127, 0, -8}, {0, 2, 0, -8}, {0, -2, 0, -8},
		{5, -20, 0, 0}, {5, -24, 5, -8}, {5, 108, 32, 0}, {5, 112, 5, -8}, {5, -3, 5, -8}, {5, -19, 5, -8},
		{32, 0, 32, 0}, {32, 4, 32, -8}, {32, -128, 0, 0}, {32, -132, 32, -8},
	} {
		got, throw, code := impl.AllotCells(dataOf(1, 1, v.here), v.n)
		if got.Here != v.newHere || throw != v.throw || code != impl.OK {
			t.Errorf("AllotCells(%d) with Here %d: Here %d, throw %d, code %d", v.n, v.here, got.Here, throw, code)
		}
	}
}

func TestCellsGivenBackAreAllottedAnew(t *testing.T) {
	d, _, _ := impl.AllotCells(impl.NewData(), 12)
	d, _, _ = impl.Store(d, 4096, 1)
	d, _, _ = impl.Store(d, 4100, 2)
	d, _, _ = impl.Store(d, 4104, 3)
	d, throw, code := impl.AllotCells(d, -8)
	if throw != 0 || code != impl.OK || d.Here != 1 || !slices.Equal(d.Cells[:3], []int{1, 2, 3}) {
		t.Fatalf("two cells are given back: %v, %d, %d", d, throw, code)
	}
	if _, throw, _ := impl.Fetch(d, 4100); throw != -9 {
		t.Errorf("a cell that was given back is fetched with the throw %d", throw)
	}
	if _, throw, _ := impl.Store(d, 4100, 4); throw != -9 {
		t.Errorf("a cell that was given back is stored with the throw %d", throw)
	}
	d, throw, code = impl.AllotCells(d, 4)
	if throw != 0 || code != impl.OK || d.Here != 2 || !slices.Equal(d.Cells[:3], []int{1, 0, 3}) {
		t.Errorf("one cell is allotted anew: %v, %d, %d", d, throw, code)
	}
}

func TestSay(t *testing.T) {
	texts := []string{"", " ", "a", "hello ", "\x00", "\xff", "\xc3", "é\n", "\x80\x80"}
	for _, size := range []int{maxOut - 6, maxOut - 4, maxOut - 3, maxOut - 2, maxOut - 1, maxOut, maxOut + 1, impl.MaxText} {
		texts = append(texts, strings.Repeat("s", size))
	}
	for i, d := range validData() {
		for k, text := range texts {
			want, wantThrow := clonedData(d), 0
			want.Out += text
			if len(want.Out) > maxOut {
				want, wantThrow = d, -17
			}
			got, throw, code := impl.Say(d, text)
			wantData(t, fmt.Sprint("Say ", i, k), got, want, throw, wantThrow, code)
		}
	}
}

func TestSayUpToMaxOut(t *testing.T) {
	d := impl.NewData()
	for i := range maxOut {
		next, throw, code := impl.Say(d, "x")
		if throw != 0 || code != impl.OK || len(next.Out) != i+1 {
			t.Fatalf("byte %d: throw %d, code %d", i, throw, code)
		}
		d = next
	}
	got, throw, code := impl.Say(d, "x")
	wantData(t, "Say", got, d, throw, -17, code)
	got, throw, code = impl.Say(d, "")
	wantData(t, "Say", got, d, throw, 0, code)
}

// TestManyStepsOnData goes through a fixed mixture of calls, each on the
// result of the call before it.
func TestManyStepsOnData(t *testing.T) {
	d, want := impl.NewData(), impl.NewData()
	n := 4711
	for range 20000 {
		n = (n*1103515245 + 12345) % (1 << 31)
		number := (n >> 8) % 40
		at := dataBase + 4*(number%34) - 4
		var throw, wantThrow, code int
		var what string
		switch (n >> 16) % 5 {
		case 0:
			what = fmt.Sprint("Push ", number)
			d, throw, code = impl.Push(d, number)
			if len(want.Stack) < maxStack {
				want.Stack = append(slices.Clone(want.Stack), number)
			} else {
				wantThrow = -3
			}
		case 1:
			what = "Pop"
			d, _, throw, code = impl.Pop(d)
			if last := len(want.Stack) - 1; last >= 0 {
				want.Stack = want.Stack[:last]
			} else {
				wantThrow = -4
			}
		case 2:
			what = fmt.Sprint("AllotCells ", number-20)
			d, throw, code = impl.AllotCells(d, number-20)
			want, wantThrow = allotted(want, number-20)
		case 3:
			what = fmt.Sprint("Store ", at)
			d, throw, code = impl.Store(d, at, -number)
			if place := placeOf(want, at); place >= 0 {
				want.Cells[place] = -number
			} else {
				wantThrow = -9
			}
		case 4:
			what = "Say"
			d, throw, code = impl.Say(d, "ab")
			if len(want.Out) <= maxOut-2 {
				want.Out += "ab"
			} else {
				wantThrow = -17
			}
		}
		wantData(t, what, d, want, throw, wantThrow, code)
		if t.Failed() {
			return
		}
	}
}

func TestNumbersThatAreNoCells(t *testing.T) {
	for _, d := range []impl.Data{impl.NewData(), dataOf(maxStack, maxStack, maxCells)} {
		for _, n := range notCells() {
			if got, throw, code := impl.Push(d, n); code != impl.ErrRange || throw != 0 || !isZeroData(got) {
				t.Errorf("Push(%d) = %v, %d, %d", n, got, throw, code)
			}
			for _, at := range []int{dataBase, dataBase + 2, -4, minInt, maxInt} {
				if got, throw, code := impl.Store(d, at, n); code != impl.ErrRange || throw != 0 || !isZeroData(got) {
					t.Errorf("Store(%d, %d) = %v, %d, %d", at, n, got, throw, code)
				}
			}
			if got, throw, code := impl.AllotCells(d, n); code != impl.ErrRange || throw != 0 || !isZeroData(got) {
				t.Errorf("AllotCells(%d) = %v, %d, %d", n, got, throw, code)
			}
		}
	}
}

func TestInvalidData(t *testing.T) {
	refused := func(what string, i int, d impl.Data, number, throw, code int) {
		t.Helper()
		if code != impl.ErrBad || throw != 0 || number != 0 || !isZeroData(d) {
			t.Errorf("%s of invalid data %d = %v, %d, %d, %d", what, i, d, number, throw, code)
		}
	}
	for i, bad := range badData() {
		for _, n := range append(notCells(), 0, 4) {
			d, throw, code := impl.Push(bad, n)
			refused("Push", i, d, 0, throw, code)
			number, throw, code := impl.Fetch(bad, n)
			refused("Fetch", i, impl.Data{}, number, throw, code)
			d, throw, code = impl.Store(bad, dataBase, n)
			refused("Store", i, d, 0, throw, code)
			d, throw, code = impl.Store(bad, n, n)
			refused("Store", i, d, 0, throw, code)
			d, throw, code = impl.AllotCells(bad, n)
			refused("AllotCells", i, d, 0, throw, code)
		}
		d, top, throw, code := impl.Pop(bad)
		refused("Pop", i, d, top, throw, code)
		for _, size := range []int{0, 1, maxOut + 1, impl.MaxText} {
			d, throw, code := impl.Say(bad, strings.Repeat("s", size))
			refused("Say", i, d, 0, throw, code)
		}
	}
}

func TestSayTooLongText(t *testing.T) {
	text := strings.Repeat("s", impl.MaxText+1)
	for i, d := range append(validData(), badData()...) {
		if got, throw, code := impl.Say(d, text); code != impl.ErrLong || throw != 0 || !isZeroData(got) {
			t.Errorf("Say of data %d = %v, %d, %d", i, got, throw, code)
		}
	}
}

func TestNumbersOfThrows(t *testing.T) {
	throws := []int{impl.ThOver, impl.ThUnder, impl.ThBackOver, impl.ThBackUnder, impl.ThSpace, impl.ThAddress, impl.ThZero, impl.ThName, impl.ThOnly, impl.ThOut, impl.ThControl, impl.ThToken, impl.ThBack, impl.ThCalls, impl.ThDenied, impl.ThFuel}
	want := []int{-3, -4, -5, -6, -8, -9, -10, -13, -14, -17, -22, -24, -25, -50, -100, -101}
	if !slices.Equal(throws, want) {
		t.Errorf("the throws are %v, not %v", throws, want)
	}
}
