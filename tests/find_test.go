package tests

// Promise 5: an added word is found under its name, hides older words of that
// name, and changes none.

import (
	"slices"
	"strings"
	"testing"

	"loop.example/g00787/impl"
)

// wantFound checks the number under which a name is found, or that it is
// unknown if the number is 0.
func wantFound(t *testing.T, list []impl.Word, name string, want int) {
	t.Helper()
	wantCode := impl.OK
	if want == 0 {
		wantCode = impl.ErrName
	}
	if number, code := impl.FindWord(list, name); number != want || code != wantCode {
		t.Errorf("FindWord of %.20q = %d, %d, not %d, %d", name, number, code, want, wantCode)
	}
}

// added is the dictionary with one more word, which the test works out itself.
func added(t *testing.T, list []impl.Word, x impl.Word) []impl.Word {
	t.Helper()
	want := append(slices.Clone(list), x)
	got, number, code := impl.AddWord(list, x)
	if code != impl.OK || number != len(want) || !slices.Equal(got, want) {
		t.Errorf("AddWord of %v to %d words: %d words, %d, %d", x, len(list), len(got), number, code)
	}
	return want
}

func TestKernelWordsAreFound(t *testing.T) {
	for i, x := range kernelWords() {
		want := i + 1
		if x.Kind == impl.WdInner {
			want = 0
		}
		mixed := strings.ToLower(x.Name[:len(x.Name)/2]) + x.Name[len(x.Name)/2:]
		for _, name := range []string{x.Name, strings.ToLower(x.Name), mixed} {
			wantFound(t, kernelWords(), name, want)
			wantFound(t, append(kernelWords(), impl.Word{Name: "other", Kind: impl.WdConst}), name, want)
		}
	}
}

func TestUnknownWords(t *testing.T) {
	for _, name := range []string{"", " ", "zap", "a b", "DUP ", " DUP", "DUPP", "DU", "2", "+ ", "\x00", "\xff", "é", "ＤＵＰ", "ſwap", "DROP DUP", "colon ", "thirteenbytes", "(lit)", "(BRANCH)", "(0branch)", "(do)", "(Loop)", "(+LOOP)", "`", "{"} {
		wantFound(t, kernelWords(), name, 0)
		if name != "(lit)" {
			wantFound(t, dictOf(maxUser), name, 0)
		}
	}
}

func TestScriptWordsAreFound(t *testing.T) {
	list := kernelWords()
	for _, x := range scriptWords() {
		list = added(t, list, x)
		for _, name := range []string{x.Name, strings.ToLower(x.Name), strings.ToUpper(x.Name)} {
			wantFound(t, list, name, len(list))
		}
	}
	for name, want := range map[string]int{"COLON": 84, "c1": 85, "VAR": 87, "VLast": 89, "-1": 93, "DUP": 95, "IF": 96, "(LIT)": 97, "!": 98, "~": 99, "TWELVE-BYTES": 100, `\`: 101, "drop": 2, "[']": 83, "(branch)": 0} {
		wantFound(t, list, name, want)
	}
}

// TestNameUsedAgain adds three words of each kind of name, that of a kernel
// word, of an inner word and of none of the kernel.
func TestNameUsedAgain(t *testing.T) {
	for _, v := range []struct {
		name   string
		before int
	}{{"dup", 1}, {"Exit", 53}, {"hread", 63}, {":", 67}, {"[']", 83}, {"UNLOOP", 52}, {"(lit)", 0}, {"(+Loop)", 0}, {"fresh", 0}} {
		list := kernelWords()
		wantFound(t, list, v.name, v.before)
		for i, x := range []impl.Word{
			{Name: strings.ToUpper(v.name), Kind: impl.WdConst, Value: 1},
			{Name: strings.ToLower(v.name), Kind: impl.WdVar, Value: dataBase},
			{Name: v.name, Kind: impl.WdColon, Value: 2},
			{Name: strings.ToUpper(v.name), Kind: impl.WdConst, Value: 1},
		} {
			list = added(t, list, x)
			wantFound(t, list, v.name, kernelSize+i+1)
			wantFound(t, list, strings.ToLower(v.name), kernelSize+i+1)
			// A word of another name is in between, and hides nothing.
			between := added(t, list, impl.Word{Name: "between", Kind: impl.WdConst})
			wantFound(t, between, v.name, kernelSize+i+1)
			// The older dictionary still finds the older word.
			wantFound(t, list[:kernelSize], v.name, v.before)
		}
	}
}

// TestFindWordAgainstScan compares FindWord with a search from the end, for
// every name on which the words of a dictionary could be mixed up.
func TestFindWordAgainstScan(t *testing.T) {
	names := []string{"a", "A", "b", "aa", "Dup", "(lit)", "(LOOP)", "LOOP", "'", "1+"}
	list := kernelWords()
	for i := range maxUser {
		list = added(t, list, impl.Word{Name: names[(i*i+3*i)%len(names)], Kind: impl.WdColon + i%3, Value: []int{i, dataBase + 4*i, -i}[i%3]})
		for _, x := range list {
			wantFound(t, list, x.Name, lastOf(list, x.Name))
		}
		for _, name := range names {
			wantFound(t, list, name, lastOf(list, name))
		}
	}
}

func lastOf(list []impl.Word, name string) int {
	for i, x := range slices.Backward(list) {
		if x.Kind != 3 && len(x.Name) == len(name) && upper(x.Name) == upper(name) {
			return i + 1
		}
	}
	return 0
}

// TestAddedWordChangesNone adds a word to every dictionary that has room, and
// looks up all names before and after.
func TestAddedWordChangesNone(t *testing.T) {
	for _, list := range validDicts() {
		if len(list) >= kernelSize+maxUser {
			continue
		}
		for _, x := range scriptWords() {
			more := added(t, list, x)
			if !impl.DictOK(more) || !impl.KernelSame(more) {
				t.Errorf("%v makes the dictionary invalid", x)
			}
			wantFound(t, more, x.Name, len(more))
			for _, old := range list {
				if upper(old.Name) != upper(x.Name) {
					wantFound(t, more, old.Name, lastOf(list, old.Name))
				}
			}
		}
	}
}

func TestDictionaryFills(t *testing.T) {
	list := kernelWords()
	for i := range maxUser {
		list = added(t, list, impl.Word{Name: "x", Kind: impl.WdConst, Value: i})
	}
	for _, x := range scriptWords() {
		if got, number, code := impl.AddWord(list, x); code != impl.ErrFull || number != 0 || len(got) != 0 {
			t.Errorf("AddWord to a full dictionary: %d words, %d, %d", len(got), number, code)
		}
	}
	wantFound(t, list, "X", kernelSize+maxUser)
	if !impl.TokenOK(list, kernelSize+maxUser) || impl.TokenOK(list, kernelSize+maxUser+1) {
		t.Error("the tokens of a full dictionary are wrong")
	}
}

// TestAddWordRefuses also has a full dictionary: ErrBad comes before ErrFull.
func TestAddWordRefuses(t *testing.T) {
	for _, x := range badScriptWords() {
		for _, size := range []int{0, 1, maxUser - 1, maxUser} {
			if got, number, code := impl.AddWord(dictOf(size), x); code != impl.ErrBad || number != 0 || len(got) != 0 {
				t.Errorf("AddWord of %v to %d script words: %d words, %d, %d", x, size, len(got), number, code)
			}
		}
	}
	for i, list := range badDicts() {
		for _, x := range []impl.Word{scriptWords()[0], {}} {
			if got, number, code := impl.AddWord(list, x); code != impl.ErrBad || number != 0 || len(got) != 0 {
				t.Errorf("AddWord to bad list %d: %d words, %d, %d", i, len(got), number, code)
			}
		}
	}
}

func TestFindWordRefuses(t *testing.T) {
	for i, list := range badDicts() {
		for _, name := range []string{"dup", "colon", "zap", "", "a b", strings.Repeat("a", impl.MaxText)} {
			if number, code := impl.FindWord(list, name); code != impl.ErrBad || number != 0 {
				t.Errorf("FindWord of %.20q in bad list %d = %d, %d", name, i, number, code)
			}
		}
	}
}

// TestLongNames has the largest name that is accepted as an argument, and the
// first that is not; within a word a name of any length is just invalid.
func TestLongNames(t *testing.T) {
	for size, want := range map[int]int{12: impl.ErrName, 13: impl.ErrName, impl.MaxText - 1: impl.ErrName, impl.MaxText: impl.ErrName, impl.MaxText + 1: impl.ErrLong, 2 * impl.MaxText: impl.ErrLong} {
		name := strings.Repeat("a", size)
		if number, code := impl.FindWord(kernelWords(), name); number != 0 || code != want {
			t.Errorf("FindWord of %d bytes = %d, %d", size, number, code)
		}
		if size > impl.MaxName {
			if _, _, code := impl.AddWord(kernelWords(), impl.Word{Name: name, Kind: impl.WdConst}); code != impl.ErrBad {
				t.Errorf("AddWord of a name of %d bytes returns %d", size, code)
			}
		}
	}
	if _, code := impl.FindWord(nil, strings.Repeat("a", impl.MaxText+1)); code != impl.ErrLong {
		t.Errorf("FindWord of a long name in no dictionary returns %d", code)
	}
}

func TestLongDictionaries(t *testing.T) {
	for size, want := range map[int]int{impl.MaxList - 1: impl.ErrBad, impl.MaxList: impl.ErrBad, impl.MaxList + 1: impl.ErrLong, 2 * impl.MaxList: impl.ErrLong} {
		for _, list := range [][]impl.Word{dictOf(size - kernelSize), make([]impl.Word, size)} {
			for _, name := range []string{"dup", "", "zap"} {
				if number, code := impl.FindWord(list, name); number != 0 || code != want {
					t.Errorf("FindWord in %d words = %d, %d", size, number, code)
				}
			}
			for _, x := range []impl.Word{scriptWords()[0], {}} {
				if got, number, code := impl.AddWord(list, x); len(got) != 0 || number != 0 || code != want {
					t.Errorf("AddWord to %d words: %d words, %d, %d", size, len(got), number, code)
				}
			}
		}
	}
}
