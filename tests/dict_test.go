package tests

// Promise 5: the kernel is the one that the document lists, and which lists
// are dictionaries. What the tests expect is written out here a second time.

import (
	"slices"
	"strings"
	"testing"

	"loop.example/g00787/impl"
)

const (
	kernelSize = 83
	maxUser    = 20
	maxCode    = 400
	lastVar    = 4096 + 4*31
)

// kernelNames has the names of each kind, as chapter 5 lists them.
func kernelNames() [][]string {
	return [][]string{
		strings.Fields("DUP DROP SWAP OVER ROT NIP TUCK ?DUP 2DUP 2DROP DEPTH >R R> R@ + - * / MOD AND OR XOR LSHIFT RSHIFT NEGATE ABS INVERT 1+ 1- MIN MAX = <> < > U< 0= 0< @ ! +! HERE ALLOT , EMIT . CR SPACE DECIMAL HEX I UNLOOP"),
		strings.Fields("EXIT EXECUTE CATCH THROW"),
		strings.Fields("(LIT) (BRANCH) (0BRANCH) (DO) (LOOP) (+LOOP)"),
		strings.Fields("HREAD HWRITE HASK HTIME"),
		strings.Fields(": ; IF ELSE THEN BEGIN UNTIL WHILE REPEAT DO LOOP +LOOP RECURSE VARIABLE CONSTANT ' [']"),
	}
}

func kernelWords() []impl.Word {
	var list []impl.Word
	for i, names := range kernelNames() {
		for k, name := range names {
			list = append(list, impl.Word{Name: name, Kind: i + 1, Value: k + 1})
		}
	}
	return list
}

// scriptWords are valid, at every limit of their kinds.
func scriptWords() []impl.Word {
	return []impl.Word{
		{Name: "colon", Kind: impl.WdColon, Value: 0}, {Name: "c1", Kind: impl.WdColon, Value: 1}, {Name: "last", Kind: impl.WdColon, Value: maxCode - 1},
		{Name: "var", Kind: impl.WdVar, Value: dataBase}, {Name: "v1", Kind: impl.WdVar, Value: dataBase + 4}, {Name: "vlast", Kind: impl.WdVar, Value: lastVar},
		{Name: "const", Kind: impl.WdConst, Value: 0}, {Name: "low", Kind: impl.WdConst, Value: minCell}, {Name: "high", Kind: impl.WdConst, Value: maxCell}, {Name: "-1", Kind: impl.WdConst, Value: -1},
		{Name: "dup", Kind: impl.WdColon, Value: 7}, {Name: "Dup", Kind: impl.WdConst, Value: 7}, {Name: "if", Kind: impl.WdVar, Value: dataBase + 8}, {Name: "(lit)", Kind: impl.WdConst, Value: 57},
		{Name: "!", Kind: impl.WdConst, Value: 1}, {Name: "~", Kind: impl.WdConst, Value: 2}, {Name: "twelve-bytes", Kind: impl.WdConst, Value: 12}, {Name: `\`, Kind: impl.WdConst, Value: 3},
	}
}

// badScriptWords are valid but for one field, and the zero word.
func badScriptWords() []impl.Word {
	list := []impl.Word{{}}
	for _, name := range []string{"", " ", "a b", " a", "a ", "\t", "a\n", "\x00", "\x7f", "\x80", "é", "thirteenbytes", strings.Repeat("a", impl.MaxText), strings.Repeat("a", impl.MaxText+1)} {
		list = append(list, impl.Word{Name: name, Kind: impl.WdColon}, impl.Word{Name: name, Kind: impl.WdVar, Value: dataBase}, impl.Word{Name: name, Kind: impl.WdConst})
	}
	for _, kind := range []int{minInt, minCell, -6, -1, 0, 1, 2, 3, 4, 5, 9, 10, 6 + 1<<32, maxCell, maxInt} {
		list = append(list, impl.Word{Name: "a", Kind: kind}, impl.Word{Name: "a", Kind: kind, Value: 1}, impl.Word{Name: "a", Kind: kind, Value: dataBase})
	}
	for _, v := range []struct {
		kind   int
		values []int
	}{
		{impl.WdColon, []int{minInt, minCell, -400, -1, maxCode, maxCode + 1, dataBase, 1 << 32, maxCell, maxInt}},
		{impl.WdVar, []int{minInt, minInt + dataBase, minCell, -dataBase, -4, 0, 4, dataBase - 4, dataBase - 1, dataBase + 1, dataBase + 2, dataBase + 3, lastVar - 1, lastVar + 1, lastVar + 4, dataBase + 1<<32, maxCell, maxInt - 3, maxInt}},
		{impl.WdConst, []int{minInt, minCell - 1, maxCell + 1, 1 << 32, maxInt}},
	} {
		for _, value := range v.values {
			list = append(list, impl.Word{Name: "a", Kind: v.kind, Value: value})
		}
	}
	return list
}

// dictOf has the kernel and behind it the words in turn until it has size
// words of the script.
func dictOf(size int) []impl.Word {
	list := kernelWords()
	words := scriptWords()
	for i := range size {
		list = append(list, words[i%len(words)])
	}
	return list
}

func validDicts() [][]impl.Word {
	list := [][]impl.Word{impl.KernelWords()}
	for _, size := range []int{0, 1, 2, 13, len(scriptWords()), maxUser - 1, maxUser} {
		list = append(list, dictOf(size))
	}
	return list
}

// bentKernels have the length of a dictionary, but one word of the kernel is
// another one.
func bentKernels() [][]impl.Word {
	var list [][]impl.Word
	turned := func(turn func(list []impl.Word)) {
		other := dictOf(2)
		turn(other)
		list = append(list, other)
	}
	for i := range kernelSize {
		turned(func(list []impl.Word) { list[i].Name += "x" })
		turned(func(list []impl.Word) { list[i].Name = "" })
		turned(func(list []impl.Word) { list[i].Kind++ })
		turned(func(list []impl.Word) { list[i].Value++ })
		turned(func(list []impl.Word) { list[i].Value-- })
		turned(func(list []impl.Word) { list[i] = impl.Word{} })
		turned(func(list []impl.Word) { list[i], list[(i+1)%kernelSize] = list[(i+1)%kernelSize], list[i] })
	}
	for _, n := range []int{minInt, maxInt} {
		turned(func(list []impl.Word) { list[0].Kind = n })
		turned(func(list []impl.Word) { list[kernelSize-1].Value = n })
	}
	turned(func(list []impl.Word) { list[0].Name = "dup" })
	turned(func(list []impl.Word) { list[56].Name = "(lit)" })
	turned(func(list []impl.Word) { list[82] = impl.Word{Name: "[']", Kind: impl.WdColon, Value: 17} })
	return list
}

// badDicts are no dictionaries, for the reasons that chapter 5 gives.
func badDicts() [][]impl.Word {
	list := [][]impl.Word{nil, {}, kernelWords()[:1], kernelWords()[1:], kernelWords()[:kernelSize-1], scriptWords(), dictOf(maxUser)[1:], dictOf(maxUser + 1), dictOf(2 * maxUser), dictOf(impl.MaxList - kernelSize)}
	for _, x := range badScriptWords() {
		list = append(list, append(kernelWords(), x))
	}
	for _, place := range []int{0, 1, maxUser / 2, maxUser - 1} {
		other := dictOf(maxUser)
		other[kernelSize+place].Value = maxInt
		list = append(list, other)
	}
	list = append(list, slices.Insert(kernelWords(), 40, scriptWords()[0]), append(kernelWords(), kernelWords()...), append(kernelWords(), kernelWords()[0]))
	return append(list, bentKernels()...)
}

func TestKernelWords(t *testing.T) {
	got, want := impl.KernelWords(), kernelWords()
	if len(want) != kernelSize || impl.Kernel != kernelSize || len(got) != kernelSize {
		t.Fatalf("the kernel has %d words", len(got))
	}
	for i, x := range want {
		if got[i] != x {
			t.Errorf("kernel word %d is %v, not %v", i+1, got[i], x)
		}
	}
}

// TestKernelNumbers checks the numbers that chapter 5 gives for each kind.
func TestKernelNumbers(t *testing.T) {
	for kind, ends := range map[int][2]int{impl.WdPrim: {1, 52}, impl.WdFlow: {53, 56}, impl.WdInner: {57, 62}, impl.WdHost: {63, 66}, impl.WdSyntax: {67, 83}} {
		for number, x := range impl.KernelWords() {
			if in := ends[0] <= number+1 && number+1 <= ends[1]; in != (x.Kind == kind) || in && x.Value != number+2-ends[0] {
				t.Errorf("kernel word %d is %v", number+1, x)
			}
		}
	}
}

func TestDictOK(t *testing.T) {
	for i, list := range validDicts() {
		if !impl.DictOK(list) {
			t.Errorf("dictionary %d is refused: %v", i, list[min(kernelSize, len(list)):])
		}
	}
	for i, list := range badDicts() {
		if impl.DictOK(list) {
			t.Errorf("list %d of %d words passes for a dictionary", i, len(list))
		}
	}
}

func TestDictOKOfEachScriptWord(t *testing.T) {
	for _, x := range scriptWords() {
		if !impl.DictOK(append(kernelWords(), x)) {
			t.Errorf("the script word %v is refused", x)
		}
	}
	for _, x := range badScriptWords() {
		if impl.DictOK(append(kernelWords(), x)) || impl.DictOK(append(dictOf(5), x)) || impl.DictOK(append(kernelWords(), x, scriptWords()[0])) {
			t.Errorf("the script word %v is accepted", x)
		}
	}
}

// TestDictOKOfValues goes through all values near the limits of each kind.
func TestDictOKOfValues(t *testing.T) {
	for value := -500; value < dataBase+500; value++ {
		for kind, want := range map[int]bool{
			impl.WdColon: value >= 0 && value < maxCode,
			impl.WdVar:   value >= dataBase && value <= lastVar && value%4 == 0,
			impl.WdConst: true,
		} {
			x := impl.Word{Name: "x", Kind: kind, Value: value}
			if impl.DictOK(append(kernelWords(), x)) != want {
				t.Errorf("DictOK takes %v wrongly", x)
			}
		}
	}
}

func TestDictOKOfNameBytes(t *testing.T) {
	for c := range 256 {
		for _, name := range []string{string([]byte{byte(c)}), string([]byte{'n', byte(c)}), string([]byte{byte(c), 'n'})} {
			if impl.DictOK(append(kernelWords(), impl.Word{Name: name, Kind: impl.WdConst})) != (c >= 33 && c <= 126) {
				t.Errorf("DictOK takes the name %q wrongly", name)
			}
		}
	}
}

func TestKernelSame(t *testing.T) {
	for i, list := range validDicts() {
		if !impl.KernelSame(list) {
			t.Errorf("dictionary %d has another kernel", i)
		}
	}
	for i, list := range bentKernels() {
		if impl.KernelSame(list) {
			t.Errorf("bent kernel %d passes for the kernel", i)
		}
	}
	for i, list := range [][]impl.Word{nil, {}, kernelWords()[:1], kernelWords()[1:], kernelWords()[:kernelSize-1], append(kernelWords()[1:], scriptWords()...), slices.Repeat([]impl.Word{{}}, kernelSize)} {
		if impl.KernelSame(list) {
			t.Errorf("list %d passes for the kernel", i)
		}
	}
}

// TestKernelSameLooksNoFurther has lists that are no dictionaries only because
// of what is behind the kernel.
func TestKernelSameLooksNoFurther(t *testing.T) {
	for _, x := range badScriptWords() {
		if !impl.KernelSame(append(kernelWords(), x)) {
			t.Errorf("the kernel is not the same before %v", x)
		}
	}
	for _, size := range []int{maxUser + 1, impl.MaxList - kernelSize - 1, impl.MaxList - kernelSize} {
		if !impl.KernelSame(dictOf(size)) {
			t.Errorf("the kernel is not the same before %d words", size)
		}
	}
}

func TestTokens(t *testing.T) {
	for i, list := range validDicts() {
		for n := -100; n <= 200; n++ {
			want := n >= 1 && n <= 56 || n >= 63 && n <= 66 || n > kernelSize && n <= len(list)
			if impl.TokenOK(list, n) != want {
				t.Errorf("TokenOK of dictionary %d and %d is not %v", i, n, want)
			}
		}
		for _, n := range append(notCells(), minCell, maxCell, impl.MaxList, 1+1<<32, kernelSize+1+1<<32) {
			if impl.TokenOK(list, n) {
				t.Errorf("%d is a token of dictionary %d", n, i)
			}
		}
	}
}

func TestNoTokensWithoutDictionary(t *testing.T) {
	for i, list := range append(badDicts(), dictOf(impl.MaxList+1)) {
		for _, n := range []int{minInt, -1, 0, 1, 2, 53, 57, 63, 67, kernelSize, kernelSize + 1, len(list), maxInt} {
			if impl.TokenOK(list, n) {
				t.Errorf("%d is a token of list %d, which is no dictionary", n, i)
			}
		}
	}
}

func TestLongListsAreNoDictionaries(t *testing.T) {
	for _, size := range []int{impl.MaxList + 1, 2 * impl.MaxList} {
		list := dictOf(size - kernelSize)
		if impl.DictOK(list) || impl.KernelSame(list) || impl.TokenOK(list, 1) {
			t.Errorf("a list of %d words is taken", size)
		}
	}
}
