package tests

// Promise 7, the deeds as a record: applied in order to the store that was
// there before, they yield the store that is there after them.

import (
	"fmt"
	"slices"
	"testing"

	"loop.example/g00787/impl"
)

// folded is what FoldDeeds should return, one deed after the other.
func folded(store []int, deeds []impl.Deed) []int {
	list := slices.Clone(store)
	for _, x := range deeds {
		for i := range list {
			if x.Cap == 1 && x.A == i {
				list[i] = x.B
			}
		}
	}
	return list
}

func wantFold(t *testing.T, what string, store []int, deeds []impl.Deed, want []int, wantCode int) {
	t.Helper()
	if got, code := impl.FoldDeeds(store, deeds); code != wantCode || !slices.Equal(got, want) {
		t.Errorf("%s = %v, %d, not %v, %d", what, got, code, want, wantCode)
	}
}

func TestFoldDeeds(t *testing.T) {
	empty := make([]int, storeSize)
	full := []int{10, 11, 12, 13, 14, 15, 16, 17}
	for _, v := range []struct {
		what  string
		store []int
		deeds []impl.Deed
		want  []int
	}{
		{"no deeds", full, nil, full},
		{"no deeds on an empty store", empty, []impl.Deed{}, empty},
		{"a write", empty, []impl.Deed{{Cap: 1, A: 3, B: 77}}, []int{0, 0, 0, 77, 0, 0, 0, 0}},
		{"writes at both ends", full, []impl.Deed{{Cap: 1, A: 0, B: minCell}, {Cap: 1, A: 7, B: maxCell}}, []int{minCell, 11, 12, 13, 14, 15, 16, maxCell}},
		{"a write of 0", full, []impl.Deed{{Cap: 1, A: 2}}, []int{10, 11, 0, 13, 14, 15, 16, 17}},
		{"several writes of a cell", full, []impl.Deed{{Cap: 1, A: 5, B: 1}, {Cap: 1, A: 5, B: 3}, {Cap: 1, A: 5, B: 2}}, []int{10, 11, 12, 13, 14, 2, 16, 17}},
		{"a write that restores a cell", full, []impl.Deed{{Cap: 1, A: 5, B: 1}, {Cap: 1, A: 5, B: 15}}, full},
		{"writes of cells by turns", empty, []impl.Deed{{Cap: 1, A: 1, B: 5}, {Cap: 1, A: 6, B: 6}, {Cap: 1, A: 1, B: 7}, {Cap: 1, A: 6, B: 8}, {Cap: 1, A: 1, B: 9}}, []int{0, 9, 0, 0, 0, 0, 8, 0}},
		{"writes of no index", full, []impl.Deed{{Cap: 1, A: -1, B: 5}, {Cap: 1, A: 8, B: 5}, {Cap: 1, A: 9, B: 5}, {Cap: 1, A: minCell, B: 5}, {Cap: 1, A: maxCell, B: 5}}, full},
		{"writes of no index between others", full, []impl.Deed{{Cap: 1, A: 7, B: 1}, {Cap: 1, A: 8, B: 2}, {Cap: 1, A: -1, B: 3}, {Cap: 1, A: 0, B: 4}}, []int{4, 11, 12, 13, 14, 15, 16, 1}},
		{"other deeds", full, []impl.Deed{{Cap: 0, A: 3, B: 1, Result: 2}, {Cap: 2, A: 4, B: 1, Result: 2}, {Cap: 3, A: 0, B: 1, Result: 2}}, full},
		{"other deeds behind a write", full, []impl.Deed{{Cap: 1, A: 3, B: 5, Result: 6}, {Cap: 0, A: 3, B: 7, Result: 8}, {Cap: 2, A: 3, B: 9}, {Cap: 3, A: 3, B: 2}}, []int{10, 11, 12, 5, 14, 15, 16, 17}},
	} {
		wantFold(t, v.what, v.store, v.deeds, v.want, impl.OK)
	}
}

// manyDeeds has deeds of every capability on every index and on some that are
// none.
func manyDeeds(size int) []impl.Deed {
	list := make([]impl.Deed, size)
	for i := range list {
		list[i] = impl.Deed{Cap: i % 3, A: (i*7)%11 - 1, B: 5*i + 1, Result: -i}
	}
	return list
}

func TestFoldManyDeeds(t *testing.T) {
	for size := range 200 {
		deeds := manyDeeds(size)
		wantFold(t, fmt.Sprint(size, " deeds"), filled(storeSize), deeds, folded(filled(storeSize), deeds), impl.OK)
	}
}

func TestFoldUpToMaxList(t *testing.T) {
	deeds := manyDeeds(impl.MaxList)
	wantFold(t, "MaxList deeds", filled(storeSize), deeds, folded(filled(storeSize), deeds), impl.OK)
	deeds[impl.MaxList-1] = impl.Deed{Cap: 1, A: 7, B: 4711}
	want := folded(filled(storeSize), deeds[:impl.MaxList-1])
	want[7] = 4711
	wantFold(t, "MaxList deeds, the last one a write", filled(storeSize), deeds, want, impl.OK)
}

func TestFoldTooManyDeeds(t *testing.T) {
	invalid := make([]impl.Deed, impl.MaxList+1)
	invalid[0].Cap = -1
	for _, deeds := range [][]impl.Deed{manyDeeds(impl.MaxList + 1), make([]impl.Deed, 2*impl.MaxList), invalid} {
		for _, store := range badStores() {
			wantFold(t, "too many deeds on an invalid store", store, deeds, nil, impl.ErrLong)
		}
		wantFold(t, "too many deeds", filled(storeSize), deeds, nil, impl.ErrLong)
	}
}

func TestFoldTooLargeStore(t *testing.T) {
	for _, size := range []int{impl.MaxList + 1, 2 * impl.MaxList} {
		for _, deeds := range [][]impl.Deed{nil, manyDeeds(5), {{Cap: -1}}, manyDeeds(impl.MaxList), manyDeeds(impl.MaxList + 1)} {
			wantFold(t, "a store that is too large", make([]int, size), deeds, nil, impl.ErrLong)
		}
	}
	wantFold(t, "a store of MaxList cells", make([]int, impl.MaxList), nil, nil, impl.ErrBad)
}

func badStores() [][]int {
	list := [][]int{nil, {}, {1}, make([]int, storeSize-1), make([]int, storeSize+1), make([]int, impl.MaxList)}
	for _, n := range notCells() {
		for place := range storeSize {
			store := filled(storeSize)
			store[place] = n
			list = append(list, store)
		}
	}
	return list
}

func TestFoldOnInvalidStores(t *testing.T) {
	for i, store := range badStores() {
		for _, deeds := range [][]impl.Deed{nil, manyDeeds(5), {{Cap: 4}}, slices.Repeat([]impl.Deed{{Cap: 1, A: 3}}, impl.MaxList)} {
			wantFold(t, fmt.Sprint("a fold on invalid store ", i), store, deeds, nil, impl.ErrBad)
		}
	}
	// Writes of all the cells do not make up for the ones that were there.
	writes := make([]impl.Deed, storeSize)
	for i := range writes {
		writes[i] = impl.Deed{Cap: 1, A: i, B: i}
	}
	wantFold(t, "writes of all cells of an invalid store", slices.Repeat([]int{maxCell + 1}, storeSize), writes, nil, impl.ErrBad)
}

func TestFoldInvalidDeeds(t *testing.T) {
	good := impl.Deed{Cap: 1, A: 3, B: 7}
	for i, bad := range badDeeds() {
		for _, deeds := range [][]impl.Deed{{bad}, {good, bad}, {bad, good}, {good, bad, good}, append(manyDeeds(impl.MaxList-1), bad)} {
			wantFold(t, fmt.Sprint("a fold of invalid deed ", i), filled(storeSize), deeds, nil, impl.ErrBad)
		}
	}
}

// TestFoldedDeedsAreTheStore makes calls of a host that starts with some store.
func TestFoldedDeedsAreTheStore(t *testing.T) {
	for _, start := range [][]int{make([]int, storeSize), filled(storeSize)} {
		h := hostOf(maxAnswers, 0, 0, 1, 2, 3)
		h.Store = slices.Clone(start)
		for i := range maxDeeds {
			h, _, _, _ = impl.HostCall(h, dataOn(100+i, (i*5)%(storeSize+1)), []int{1, 0, 1, 2, 1, 3}[i%6])
			wantFold(t, fmt.Sprint("the deeds after call ", i), start, h.Deeds, h.Store, impl.OK)
		}
		if slices.Equal(h.Store, start) || len(h.Deeds) < maxDeeds/2 {
			t.Errorf("the store is %v after %d deeds", h.Store, len(h.Deeds))
		}
	}
}
