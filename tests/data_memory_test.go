package tests

// Promise 1 for the data area and the primitives: no function changes its
// argument, not even the unused capacity of its slices, and no slice of a
// result shares memory with the argument or with another slice of the result.

import (
	"fmt"
	"slices"
	"testing"

	"loop.example/g00787/impl"
)

const unused = -99

// withRoom returns a list of the same cells that has unused capacity, and all
// of its memory.
func withRoom(list []int) ([]int, []int) {
	memory := append(slices.Clone(list), slices.Repeat([]int{unused}, maxStack+8)...)
	return memory[:len(list)], memory
}

// dataResults calls every function that returns data, with and without throws.
func dataResults(d impl.Data) map[string]impl.Data {
	results := map[string]impl.Data{}
	for _, n := range []int{0, 5, 8, -8, minCell, maxCell, maxInt} {
		results[fmt.Sprint("Push ", n)], _, _ = impl.Push(d, n)
		results[fmt.Sprint("AllotCells ", n)], _, _ = impl.AllotCells(d, n)
		results[fmt.Sprint("Store ", n)], _, _ = impl.Store(d, dataBase+4, n)
		results[fmt.Sprint("Store at ", n)], _, _ = impl.Store(d, n, 1)
	}
	results["Pop"], _, _, _ = impl.Pop(d)
	results["Say"], _, _ = impl.Say(d, "some text")
	results["Say nothing"], _, _ = impl.Say(d, "")
	for prim := range primCount + 2 {
		for _, floor := range []int{0, 1, len(d.Back), -1} {
			results[fmt.Sprint("ApplyPrim ", prim, floor)], _, _ = impl.ApplyPrim(d, prim, floor)
		}
		results[fmt.Sprint("ApplyAll ", prim)], _, _, _ = impl.ApplyAll(d, []int{prim, prim})
	}
	for _, names := range []string{"", "DROP DROP DUP DUP", "R> >R", "R> R> DUP >R >R", ">R >R R>", "HERE ! HERE 1- ALLOT", "DUP , HERE DUP +! @"} {
		results["ApplyAll "+names], _, _, _ = impl.ApplyAll(d, primsOf(names))
	}
	return results
}

func TestDataArgumentsAreUnchanged(t *testing.T) {
	for i, d := range append(validData(), badData()...) {
		own := d
		var stack, back, cells []int
		own.Stack, stack = withRoom(d.Stack)
		own.Back, back = withRoom(d.Back)
		own.Cells, cells = withRoom(d.Cells)
		before := [][]int{slices.Clone(stack), slices.Clone(back), slices.Clone(cells)}
		dataResults(own)
		impl.Fetch(own, dataBase)
		impl.DataOK(own)
		impl.SameData(own, own)
		if !slices.Equal(stack, before[0]) || !slices.Equal(back, before[1]) || !slices.Equal(cells, before[2]) {
			t.Errorf("data %d is changed", i)
		}
	}
}

// spoil overwrites all the memory of a list, also the capacity behind it.
func spoil(list []int) {
	list = list[:cap(list)]
	for i := range list {
		list[i] = unused
	}
}

func TestDataResultsAreNewMemory(t *testing.T) {
	for i, d := range validData() {
		own := d
		var stack, back, cells []int
		own.Stack, stack = withRoom(d.Stack)
		own.Back, back = withRoom(d.Back)
		own.Cells, cells = withRoom(d.Cells)
		expected := dataResults(d)
		results := dataResults(own)
		spoil(stack)
		spoil(back)
		spoil(cells)
		for what, got := range results {
			if !equalData(got, expected[what]) {
				t.Errorf("the result of %s of data %d shares memory with the argument", what, i)
			}
		}
	}
}

// TestDataSlicesAreApart gives the functions data whose slices are one piece
// of memory.
func TestDataSlicesAreApart(t *testing.T) {
	memory := filled(maxCells)
	d := impl.Data{Stack: memory[:7], Back: memory[:9], Cells: memory, Here: 6, Base: 10}
	expected := dataResults(clonedData(d))
	for what, got := range dataResults(d) {
		if !equalData(got, expected[what]) {
			t.Errorf("%s depends on where its data is: %v", what, got)
		}
		want := clonedData(got)
		spoil(got.Stack)
		if !slices.Equal(got.Back, want.Back) || !slices.Equal(got.Cells, want.Cells) {
			t.Errorf("the Stack of the result of %s is not apart", what)
		}
		spoil(got.Back)
		if !slices.Equal(got.Cells, want.Cells) {
			t.Errorf("the Back of the result of %s is not apart", what)
		}
	}
	if !slices.Equal(memory, filled(maxCells)) {
		t.Error("the argument is changed")
	}
}

func TestPrimsAreUnchanged(t *testing.T) {
	for _, list := range [][]int{nil, {1}, {1, 0}, primsOf(allPrims), primsOf("R> R> R> DROP"), slices.Repeat([]int{1, 2}, impl.MaxList/2), slices.Repeat([]int{1}, impl.MaxList+1)} {
		prims, memory := withRoom(list)
		before := slices.Clone(memory)
		for _, d := range []impl.Data{dataOf(3, 2, 5), dataOf(maxStack, maxStack, maxCells), {}} {
			impl.ApplyAll(d, prims)
		}
		if !slices.Equal(memory, before) {
			t.Errorf("%d primitives are changed", len(list))
		}
	}
}

func TestNewDataIsNewMemory(t *testing.T) {
	spoil(impl.NewData().Cells)
	if got := impl.NewData(); !slices.Equal(got.Cells, make([]int, maxCells)) {
		t.Errorf("NewData() = %v", got)
	}
}
