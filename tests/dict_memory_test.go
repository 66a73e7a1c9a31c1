package tests

// Promise 1 for the dictionary: no function changes its argument, not even the
// unused capacity of the list, and no result shares memory with the argument
// or with another result.

import (
	"slices"
	"testing"

	"loop.example/g00787/impl"
)

// wordsWithRoom returns a list of the same words that has unused capacity, and
// all of its memory.
func wordsWithRoom(list []impl.Word) ([]impl.Word, []impl.Word) {
	memory := append(slices.Clone(list), slices.Repeat([]impl.Word{{Name: "unused", Kind: unused, Value: unused}}, maxUser+8)...)
	return memory[:len(list)], memory
}

func spoilWords(list []impl.Word) {
	list = list[:cap(list)]
	for i := range list {
		list[i] = impl.Word{Name: "spoilt", Kind: unused, Value: unused}
	}
}

func TestDictArgumentsAreUnchanged(t *testing.T) {
	for i, list := range append(validDicts(), badDicts()...) {
		own, memory := wordsWithRoom(list)
		before := slices.Clone(memory)
		for _, x := range []impl.Word{scriptWords()[0], {Name: "dup", Kind: impl.WdVar, Value: dataBase}, {}} {
			impl.AddWord(own, x)
		}
		impl.DictOK(own)
		impl.KernelSame(own)
		for _, name := range []string{"dup", "DUP", "(lit)", "zap", ""} {
			impl.FindWord(own, name)
		}
		impl.TokenOK(own, 1)
		impl.TokenOK(own, len(own)+1)
		if !slices.Equal(memory, before) {
			t.Errorf("list %d is changed", i)
		}
	}
}

func TestAddedDictIsNewMemory(t *testing.T) {
	x := impl.Word{Name: "new", Kind: impl.WdConst, Value: 5}
	for i, list := range validDicts() {
		if len(list) >= kernelSize+maxUser {
			continue
		}
		want := append(slices.Clone(list), x)
		own, memory := wordsWithRoom(list)
		first, _, _ := impl.AddWord(own, x)
		second, _, _ := impl.AddWord(own, x)
		spoilWords(memory)
		if !slices.Equal(first, want) {
			t.Errorf("the result of AddWord to dictionary %d shares memory with the argument", i)
		}
		spoilWords(first)
		if !slices.Equal(second, want) {
			t.Errorf("two results of AddWord to dictionary %d share memory", i)
		}
	}
}

// TestTwoWordsBehindOneDictionary would find the second word in the result
// with the first one if AddWord used the capacity of its argument or result.
func TestTwoWordsBehindOneDictionary(t *testing.T) {
	base, _, _ := impl.AddWord(impl.KernelWords(), impl.Word{Name: "base", Kind: impl.WdConst})
	one, _, _ := impl.AddWord(base, impl.Word{Name: "one", Kind: impl.WdConst, Value: 1})
	two, _, _ := impl.AddWord(base, impl.Word{Name: "two", Kind: impl.WdConst, Value: 2})
	wantFound(t, one, "one", 85)
	wantFound(t, one, "two", 0)
	wantFound(t, two, "two", 85)
	wantFound(t, two, "one", 0)
	wantFound(t, base, "one", 0)
}

// TestKernelIsSealed spoils every list that the program has returned.
func TestKernelIsSealed(t *testing.T) {
	kernel := impl.KernelWords()
	more, _, _ := impl.AddWord(kernel, impl.Word{Name: "new", Kind: impl.WdConst})
	spoilWords(kernel)
	spoilWords(more)
	if got := impl.KernelWords(); !slices.Equal(got, kernelWords()) {
		t.Errorf("KernelWords() = %v", got)
	}
	if impl.DictOK(kernel) || impl.KernelSame(kernel) || !impl.DictOK(kernelWords()) || !impl.KernelSame(kernelWords()) {
		t.Error("the kernel depends on a list that was returned")
	}
	wantFound(t, kernelWords(), "dup", 1)
}
