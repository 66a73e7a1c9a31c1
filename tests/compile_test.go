package tests

// Promise 8, the code: it has the computed size, and every target is the one
// that the document names. The code that the program should return is worked
// out here from the inside of each structure to its outside.

import (
	"slices"
	"strings"
	"testing"

	"loop.example/g00787/impl"
)

func wantCompiled(t *testing.T, list []impl.Item, at, self int, want []int, wantCode int) {
	t.Helper()
	if got, code := impl.CompileItems(list, at, self); code != wantCode || !slices.Equal(got, want) {
		t.Errorf("CompileItems(%v, %d, %d) = %v, %d, not %v, %d", list, at, self, got, code, want, wantCode)
	}
}

func wantSize(t *testing.T, list []impl.Item, want int) {
	t.Helper()
	if size, code := impl.SizeOf(list); size != want || code != impl.OK {
		t.Errorf("SizeOf(%v) = %d, %d, not %d", list, size, code, want)
	}
}

// blockCode returns the code, from address at on, of the items up to the one
// that ends the block, and that item with all items behind it.
func blockCode(list []impl.Item, at, self int) ([]int, []impl.Item) {
	var code []int
	for len(list) > 0 && !strings.Contains("ELSE THEN UNTIL WHILE REPEAT LOOP +LOOP", itemNames()[list[0].Kind-1]) {
		var part []int
		part, list = partCode(list, at+len(code), self)
		code = append(code, part...)
	}
	return code, list
}

// partCode returns the code of the first item or of the structure it opens.
func partCode(list []impl.Item, at, self int) ([]int, []impl.Item) {
	x, list := list[0], list[1:]
	switch itemNames()[x.Kind-1] {
	case "WORD":
		return []int{x.Value}, list
	case "LIT":
		return []int{57, x.Value}, list
	case "RECURSE":
		return []int{self}, list
	case "IF":
		return conditionalCode(list, at, self)
	case "BEGIN":
		return loopCode(list, at, self)
	}
	body, rest := blockCode(list, at+1, self)
	return slices.Concat([]int{60}, body, []int{map[int]int{11: 61, 12: 62}[rest[0].Kind], at + 1}), rest[1:]
}

func conditionalCode(list []impl.Item, at, self int) ([]int, []impl.Item) {
	first, rest := blockCode(list, at+2, self)
	behind := at + 2 + len(first)
	if rest[0].Kind == 5 {
		return slices.Concat([]int{59, behind}, first), rest[1:]
	}
	second, rest := blockCode(rest[1:], behind+2, self)
	return slices.Concat([]int{59, behind + 2}, first, []int{58, behind + 2 + len(second)}, second), rest[1:]
}

func loopCode(list []impl.Item, at, self int) ([]int, []impl.Item) {
	first, rest := blockCode(list, at, self)
	if rest[0].Kind == 7 {
		return slices.Concat(first, []int{59, at}), rest[1:]
	}
	inside := at + len(first) + 2
	second, rest := blockCode(rest[1:], inside, self)
	return slices.Concat(first, []int{59, inside + len(second) + 2}, second, []int{58, at}), rest[1:]
}

// wantCode compiles a properly nested list and checks it against its size too.
func wantCode(t *testing.T, list []impl.Item, at, self int) {
	t.Helper()
	want, _ := blockCode(list, at, self)
	want = append(want, 53)
	wantSize(t, list, len(want))
	if at+len(want) > maxCode {
		wantCompiled(t, list, at, self, nil, impl.ErrFull)
		return
	}
	wantCompiled(t, list, at, self, want, impl.OK)
}

// TestCodeOfEachStructure gives targets from the address of the first cell on.
func TestCodeOfEachStructure(t *testing.T) {
	for _, v := range []struct {
		text    string
		code    []int
		targets []int // the places in code of the targets
	}{
		{"", []int{53}, nil},
		{"w1 w83 w84 w103", []int{1, 83, 84, 103, 53}, nil},
		{"5 -2147483648 2147483647 0", []int{57, 5, 57, minCell, 57, maxCell, 57, 0, 53}, nil},
		{"RECURSE w2 RECURSE", []int{99, 2, 99, 53}, nil},
		{"IF THEN", []int{59, 2, 53}, []int{1}},
		{"IF w1 THEN", []int{59, 3, 1, 53}, []int{1}},
		{"w1 IF 5 THEN w2", []int{1, 59, 5, 57, 5, 2, 53}, []int{2}},
		{"IF ELSE THEN", []int{59, 4, 58, 4, 53}, []int{1, 3}},
		{"IF w1 ELSE THEN", []int{59, 5, 1, 58, 5, 53}, []int{1, 4}},
		{"IF ELSE w1 THEN", []int{59, 4, 58, 5, 1, 53}, []int{1, 3}},
		{"5 IF w1 w2 ELSE 6 THEN w3", []int{57, 5, 59, 8, 1, 2, 58, 10, 57, 6, 3, 53}, []int{3, 7}},
		{"BEGIN UNTIL", []int{59, 0, 53}, []int{1}},
		{"w1 BEGIN w2 w3 UNTIL w4", []int{1, 2, 3, 59, 1, 4, 53}, []int{4}},
		{"BEGIN WHILE REPEAT", []int{59, 4, 58, 0, 53}, []int{1, 3}},
		{"w1 BEGIN w2 WHILE 7 w3 REPEAT w4", []int{1, 2, 59, 9, 57, 7, 3, 58, 1, 4, 53}, []int{3, 8}},
		{"DO LOOP", []int{60, 61, 1, 53}, []int{2}},
		{"DO +LOOP", []int{60, 62, 1, 53}, []int{2}},
		{"9 0 DO w51 LOOP w1", []int{57, 9, 57, 0, 60, 51, 61, 5, 1, 53}, []int{7}},
		{"9 0 DO w51 2 +LOOP w1", []int{57, 9, 57, 0, 60, 51, 57, 2, 62, 5, 1, 53}, []int{9}},
		{"IF THEN IF THEN", []int{59, 2, 59, 4, 53}, []int{1, 3}},
		{"IF IF THEN THEN", []int{59, 4, 59, 4, 53}, []int{1, 3}},
		{"IF IF ELSE THEN ELSE IF THEN THEN", []int{59, 8, 59, 6, 58, 6, 58, 10, 59, 10, 53}, []int{1, 3, 5, 7, 9}},
		{"BEGIN BEGIN UNTIL UNTIL", []int{59, 0, 59, 0, 53}, []int{1, 3}},
		{"BEGIN BEGIN WHILE REPEAT WHILE BEGIN UNTIL REPEAT", []int{59, 4, 58, 0, 59, 10, 59, 6, 58, 0, 53}, []int{1, 3, 5, 7, 9}},
		{"DO DO LOOP +LOOP", []int{60, 60, 61, 2, 62, 1, 53}, []int{3, 5}},
		{"DO IF RECURSE ELSE BEGIN WHILE REPEAT THEN LOOP", []int{60, 59, 6, 99, 58, 10, 59, 10, 58, 6, 61, 1, 53}, []int{2, 5, 7, 9, 11}},
		{"BEGIN DO IF LOOP", nil, nil},
	} {
		list := itemsOf(v.text)
		if v.code == nil {
			wantCompiled(t, list, 0, 99, nil, impl.ErrControl)
			continue
		}
		wantSize(t, list, len(v.code))
		for _, at := range []int{0, 1, 57, 200, maxCode - len(v.code)} {
			want := slices.Clone(v.code)
			for _, place := range v.targets {
				want[place] += at
			}
			wantCompiled(t, list, at, 99, want, impl.OK)
			wantCode(t, list, at, 99)
		}
	}
}

func TestCodeOfEveryShortList(t *testing.T) {
	compiled := 0
	everyList(nil, []int{1, 3, 4, 5, 6, 7, 8, 9, 10, 11, 12}, 7, func(list []impl.Item) {
		if open, fits := leftOpen(list); fits && len(open) == 0 {
			compiled++
			wantCode(t, list, 0, 90)
			wantCode(t, list, 31, 84)
		}
	})
	if compiled < 6000 {
		t.Errorf("%d lists", compiled)
	}
}

func TestCodeOfLongLists(t *testing.T) {
	p := &picker{state: 7}
	for size := range maxItems + 1 {
		for range 20 {
			list := pickList(p, size)
			wantCode(t, list, 0, p.below(wordNumbers)+1)
			wantCode(t, list, p.below(maxCode+1), p.below(wordNumbers)+1)
		}
	}
}

// TestCodeOfDeepStructures has structures of each kind in one another, as many
// as may be open.
func TestCodeOfDeepStructures(t *testing.T) {
	for _, v := range [][3]string{{"IF", "", "THEN"}, {"IF", "ELSE", "THEN"}, {"BEGIN", "", "UNTIL"}, {"BEGIN", "WHILE", "REPEAT"}, {"DO", "", "LOOP"}, {"DO", "", "+LOOP"}} {
		for depth := range maxDepth + 1 {
			for _, fill := range []string{"", " w1", " 5 RECURSE"} {
				text := strings.Repeat(v[0]+fill+" ", depth) + strings.Repeat(v[1]+" "+v[2]+" ", depth)
				wantCode(t, itemsOf(text), 0, 84)
				wantCode(t, itemsOf(text+fill), 123, 84)
			}
		}
	}
}

func TestEachLiteralAndWord(t *testing.T) {
	for _, n := range cells() {
		wantCompiled(t, []impl.Item{{Kind: 2, Value: n}}, 0, 84, []int{57, n, 53}, impl.OK)
	}
	for number := 1; number <= wordNumbers; number++ {
		wantCompiled(t, []impl.Item{{Kind: 1, Value: number}}, 0, 84, []int{number, 53}, impl.OK)
		wantCompiled(t, itemsOf("RECURSE"), 0, number, []int{number, 53}, impl.OK)
	}
}

// sizes has the number of cells of each kind.
func sizes() []int {
	return []int{1: 1, 2: 2, 3: 2, 4: 2, 5: 0, 6: 0, 7: 2, 8: 2, 9: 2, 10: 1, 11: 2, 12: 2, 13: 1}
}

func TestSizeOf(t *testing.T) {
	wantSize(t, nil, 1)
	for kind := 1; kind <= 13; kind++ {
		for _, count := range []int{1, 2, 9, maxItems} {
			wantSize(t, slices.Repeat([]impl.Item{someItem(kind)}, count), 1+count*sizes()[kind])
		}
		for other := 1; other <= 13; other++ {
			wantSize(t, []impl.Item{someItem(kind), someItem(other)}, 1+sizes()[kind]+sizes()[other])
		}
	}
	for text, want := range map[string]int{"THEN IF": 3, "IF": 3, "LOOP DO": 4, "ELSE ELSE ELSE": 7, "UNTIL REPEAT WHILE": 7, "THEN BEGIN": 1, "DO": 2} {
		wantSize(t, itemsOf(text), want)
	}
	p := &picker{state: 3}
	for size := range maxItems + 1 {
		want := 1
		list := make([]impl.Item, size)
		for i := range list {
			list[i] = pickItem(p)
			want += sizes()[list[i].Kind]
		}
		wantSize(t, list, want)
	}
}

func TestAddressesAndNumbersOfCode(t *testing.T) {
	list := itemsOf("5 RECURSE")
	for _, self := range []int{1, 2, kernelSize, wordNumbers} {
		for _, at := range []int{0, 1, maxCode - 5, maxCode - 4} {
			wantCompiled(t, list, at, self, []int{57, 5, self, 53}, impl.OK)
		}
		for _, at := range []int{maxCode - 3, maxCode - 1, maxCode} {
			wantCompiled(t, list, at, self, nil, impl.ErrFull)
		}
		for _, at := range []int{minInt, minCell, -2, -1, maxCode + 1, maxCode + 2, 1 << 32, maxInt - 3, maxInt} {
			wantCompiled(t, list, at, self, nil, impl.ErrRange)
		}
	}
	for _, self := range []int{minInt, minCell, -1, 0, wordNumbers + 1, wordNumbers + 2, 1 << 32, 1<<32 + 1, maxInt} {
		for _, at := range []int{minInt, -1, 0, 1, maxCode - 4, maxCode - 3, maxCode, maxCode + 1, maxInt} {
			wantCompiled(t, list, at, self, nil, impl.ErrRange)
			wantCompiled(t, nil, at, self, nil, impl.ErrRange)
		}
	}
}

// TestCodeUpToMaxCode has the target behind all cells but the last one.
func TestCodeUpToMaxCode(t *testing.T) {
	wantCompiled(t, nil, maxCode-1, 84, []int{53}, impl.OK)
	wantCompiled(t, nil, maxCode, 84, nil, impl.ErrFull)
	for _, text := range []string{"w1", "5", "IF THEN", "IF ELSE THEN", "BEGIN UNTIL", "BEGIN WHILE REPEAT", "DO LOOP", "DO IF 5 ELSE 6 THEN +LOOP"} {
		list := itemsOf(text)
		code, _ := blockCode(list, 0, 84)
		size := len(code) + 1
		for at := maxCode - size - 2; at <= maxCode; at++ {
			wantCode(t, list, at, 84)
		}
		wantCompiled(t, list, maxCode-size+1, 84, nil, impl.ErrFull)
	}
	full := slices.Repeat(itemsOf("5"), maxItems)
	wantCode(t, full, maxCode-2*maxItems-1, 84)
	wantCompiled(t, full, maxCode-2*maxItems, 84, nil, impl.ErrFull)
}

// TestOrderOfCompilerCodes has lists for which a later code would hold too.
func TestOrderOfCompilerCodes(t *testing.T) {
	for _, text := range []string{"THEN", "IF", "5 DO", "IF IF IF IF IF IF IF IF IF"} {
		for _, at := range []int{minInt, -1, 0, maxCode, maxCode + 1, maxInt} {
			for _, self := range []int{minInt, 0, 1, wordNumbers + 1, maxInt} {
				wantCompiled(t, itemsOf(text), at, self, nil, impl.ErrControl)
			}
		}
	}
	for _, self := range []int{0, wordNumbers + 1} {
		wantCompiled(t, itemsOf("5"), maxCode, self, nil, impl.ErrRange)
	}
	wantCompiled(t, itemsOf("5"), maxCode+1, 1, nil, impl.ErrRange)
	wantCompiled(t, append(itemsOf("THEN"), impl.Item{}), 0, 1, nil, impl.ErrBad)
	wantOpen(t, itemsOf("THEN"), 2, nil, impl.ErrRange)
	wantOpen(t, itemsOf("THEN"), -1, nil, impl.ErrRange)
	wantOpen(t, append(itemsOf("THEN"), impl.Item{Kind: 14}), 0, nil, impl.ErrBad)
	wantChecked(t, append(itemsOf("THEN"), impl.Item{Kind: 14}), 0, impl.ErrBad)
}
