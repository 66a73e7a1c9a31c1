package tests

// Promise 1 for the compiler: no function changes its argument, not even the
// unused capacity of a list, and no result shares memory with an argument or
// with another result.

import (
	"fmt"
	"slices"
	"testing"

	"loop.example/g00787/impl"
)

// itemsWithRoom returns a list of the same items that has unused capacity, and
// all of its memory.
func itemsWithRoom(list []impl.Item) ([]impl.Item, []impl.Item) {
	memory := append(slices.Clone(list), slices.Repeat([]impl.Item{{Kind: unused, Value: unused}}, maxItems+8)...)
	return memory[:len(list)], memory
}

func spoilItems(list []impl.Item) {
	list = list[:cap(list)]
	for i := range list {
		list[i] = impl.Item{Kind: unused, Value: unused}
	}
}

// itemResults calls every function that takes items, and keeps the lists that
// are returned.
func itemResults(list []impl.Item) map[string][]int {
	results := map[string][]int{}
	for _, place := range []int{-1, 0, 1, len(list) / 2, len(list), len(list) + 1} {
		results[fmt.Sprint("OpenAt ", place)], _ = impl.OpenAt(list, place)
	}
	for _, at := range []int{-1, 0, 100, maxCode - 1, maxCode} {
		results[fmt.Sprint("CompileItems ", at)], _ = impl.CompileItems(list, at, 84)
	}
	impl.CheckItems(list)
	impl.SizeOf(list)
	return results
}

func memoryLists() [][]impl.Item {
	lists := someItemLists()
	p := &picker{state: 5}
	for size := range maxItems + 1 {
		lists = append(lists, pickList(p, size))
	}
	return lists
}

func TestItemArgumentsAreUnchanged(t *testing.T) {
	for i, list := range memoryLists() {
		own, memory := itemsWithRoom(list)
		before := slices.Clone(memory)
		itemResults(own)
		if !slices.Equal(memory, before) {
			t.Errorf("list %d is changed", i)
		}
	}
}

func TestItemResultsAreNewMemory(t *testing.T) {
	for i, list := range memoryLists() {
		want := itemResults(list)
		own, memory := itemsWithRoom(list)
		first, second := itemResults(own), itemResults(own)
		spoilItems(memory)
		for what := range want {
			if !slices.Equal(first[what], want[what]) {
				t.Errorf("%s of list %d shares memory with the argument", what, i)
			}
			spoil(first[what])
			delete(first, what)
			for other := range first {
				if !slices.Equal(first[other], want[other]) {
					t.Errorf("%s and %s of list %d share memory", what, other, i)
				}
			}
		}
		for what := range want {
			if !slices.Equal(second[what], want[what]) {
				t.Errorf("two results of %s of list %d share memory", what, i)
			}
		}
	}
}

func TestCodeArgumentsAreUnchanged(t *testing.T) {
	for _, words := range [][]impl.Word{nil, kernelWords(), dictOf(maxUser), bentKernels()[0]} {
		for _, list := range [][]int{nil, {53}, {57, 5, 53}, {1, 0}, {57}, {84, 53}} {
			ownWords, wordMemory := wordsWithRoom(words)
			own, memory := withRoom(list)
			wordsBefore, before := slices.Clone(wordMemory), slices.Clone(memory)
			for at := range len(list) + 3 {
				impl.CodeLines(ownWords, own, at-1)
			}
			if !slices.Equal(wordMemory, wordsBefore) || !slices.Equal(memory, before) {
				t.Errorf("CodeLines of %v changes an argument", list)
			}
		}
	}
}

// TestCodeEndsWithItsList has an operand and an EXIT in the unused capacity.
func TestCodeEndsWithItsList(t *testing.T) {
	memory := []int{1, 57, 53, 53}
	for size := range 4 {
		wantLines(t, kernelWords(), memory[:size], 0, nil, impl.ErrSize)
	}
	words, _ := wordsWithRoom(dictOf(1))
	wantLines(t, words, []int{85, 53}, 0, nil, impl.ErrToken)
}

func TestLinesAreNewMemory(t *testing.T) {
	words, wordMemory := wordsWithRoom(dictOf(maxUser))
	code, memory := withRoom([]int{84, 57, 5, 53})
	want := []string{"0 colon", "1 (LIT) 5", "3 EXIT"}
	first, _ := impl.CodeLines(words, code, 0)
	second, _ := impl.CodeLines(words, code, 0)
	spoilWords(wordMemory)
	spoil(memory)
	if !slices.Equal(first, want) {
		t.Errorf("the lines share memory with an argument: %q", first)
	}
	clear(first[:cap(first)])
	if !slices.Equal(second, want) {
		t.Errorf("two results share memory: %q", second)
	}
}
