package tests

// Promise 8, the nesting: which items are valid, which of them fit behind the
// ones before them, and which structures are open there. What the program
// should find is worked out here in another way: structures that are closed
// are struck out of the list until only open ones are left.

import (
	"slices"
	"strconv"
	"strings"
	"testing"

	"loop.example/g00787/impl"
)

const (
	maxItems    = 60
	maxDepth    = 8
	wordNumbers = kernelSize + maxUser
)

// itemNames has the names of the kinds from 1 on.
func itemNames() []string {
	return strings.Fields("WORD LIT IF ELSE THEN BEGIN UNTIL WHILE REPEAT DO LOOP +LOOP RECURSE")
}

// itemsOf reads a list in which w17 is the word with number 17 and 5 a literal.
func itemsOf(text string) []impl.Item {
	var list []impl.Item
	for _, name := range strings.Fields(text) {
		if kind := slices.Index(itemNames(), name) + 1; kind > 2 {
			list = append(list, impl.Item{Kind: kind})
		} else if digits, isWord := strings.CutPrefix(name, "w"); isWord {
			list = append(list, impl.Item{Kind: 1, Value: numberOf(digits)})
		} else {
			list = append(list, impl.Item{Kind: 2, Value: numberOf(name)})
		}
	}
	return list
}

func numberOf(text string) int {
	n, err := strconv.Atoi(text)
	if err != nil {
		panic(err)
	}
	return n
}

// someItem is a valid item of the kind.
func someItem(kind int) impl.Item {
	switch kind {
	case 1:
		return impl.Item{Kind: kind, Value: 17}
	case 2:
		return impl.Item{Kind: kind, Value: -3}
	}
	return impl.Item{Kind: kind}
}

func badItems() []impl.Item {
	var list []impl.Item
	for _, kind := range []int{minInt, minInt + 1, minCell, -13, -1, 0, 14, 15, 1 << 32, 1<<32 + 1, 1<<32 + 3, maxCell, maxInt} {
		for _, value := range []int{0, 1, 17} {
			list = append(list, impl.Item{Kind: kind, Value: value})
		}
	}
	for _, value := range []int{minInt, minCell, -1, 0, wordNumbers + 1, 1 << 32, 1<<32 + 1, maxInt} {
		list = append(list, impl.Item{Kind: 1, Value: value})
	}
	for _, value := range notCells() {
		list = append(list, impl.Item{Kind: 2, Value: value})
	}
	for kind := 3; kind <= 13; kind++ {
		for _, value := range []int{minInt, minCell, -1, 1, 2, 17, maxCell, 1 << 32, maxInt} {
			list = append(list, impl.Item{Kind: kind, Value: value})
		}
	}
	return list
}

// leftOpen has the kinds of the structures that are open behind a list, or
// false if an item does not fit, provided that all items before the last fit.
func leftOpen(list []impl.Item) ([]int, bool) {
	const letters = "..ietbuwrdll."
	var text string
	for _, x := range list {
		text += strings.Trim(letters[x.Kind-1:x.Kind], ".")
	}
	for range list {
		for _, closed := range []string{"it", "iet", "bu", "bwr", "dl"} {
			text = strings.ReplaceAll(text, closed, "")
		}
	}
	var open []int
	for text != "" {
		switch {
		case strings.HasPrefix(text, "ie"):
			open, text = append(open, 4), text[2:]
		case strings.HasPrefix(text, "bw"):
			open, text = append(open, 8), text[2:]
		case strings.ContainsAny(text[:1], "ibd"):
			open, text = append(open, map[byte]int{'i': 3, 'b': 6, 'd': 10}[text[0]]), text[1:]
		default:
			return nil, false
		}
	}
	return open, len(open) <= maxDepth
}

// fittingItems is the number of items before the first that does not fit.
func fittingItems(list []impl.Item) int {
	for i := range list {
		if _, fits := leftOpen(list[:i+1]); !fits {
			return i
		}
	}
	return len(list)
}

func wantOpen(t *testing.T, list []impl.Item, place int, want []int, wantCode int) {
	t.Helper()
	if open, code := impl.OpenAt(list, place); code != wantCode || !slices.Equal(open, want) {
		t.Errorf("OpenAt(%v, %d) = %v, %d, not %v, %d", list, place, open, code, want, wantCode)
	}
}

func wantChecked(t *testing.T, list []impl.Item, want, wantCode int) {
	t.Helper()
	if at, code := impl.CheckItems(list); at != want || code != wantCode {
		t.Errorf("CheckItems(%v) = %d, %d, not %d, %d", list, at, code, want, wantCode)
	}
}

// wantNesting expects valid items. It also checks what CompileItems makes of
// the nesting.
func wantNesting(t *testing.T, list []impl.Item) {
	t.Helper()
	fitting := fittingItems(list)
	for place := range len(list) + 1 {
		if place > fitting {
			wantOpen(t, list, place, nil, impl.ErrControl)
			continue
		}
		open, _ := leftOpen(list[:place])
		wantOpen(t, list, place, open, impl.OK)
	}
	open, _ := leftOpen(list[:fitting])
	if fitting == len(list) && len(open) == 0 {
		wantChecked(t, list, 0, impl.OK)
		return
	}
	wantChecked(t, list, fitting, impl.ErrControl)
	if code, c := impl.CompileItems(list, 0, 1); c != impl.ErrControl || len(code) != 0 {
		t.Errorf("CompileItems(%v) = %v, %d", list, code, c)
	}
}

func TestNumbersOfItems(t *testing.T) {
	kinds := []int{impl.ItWord, impl.ItLit, impl.ItIf, impl.ItElse, impl.ItThen, impl.ItBegin, impl.ItUntil, impl.ItWhile, impl.ItRepeat, impl.ItDo, impl.ItLoop, impl.ItPlus, impl.ItSelf}
	for i, kind := range kinds {
		if kind != i+1 {
			t.Errorf("kind %d is %d", i+1, kind)
		}
	}
	if impl.MaxItems != maxItems || impl.MaxDepth != maxDepth {
		t.Errorf("the limits are %d and %d", impl.MaxItems, impl.MaxDepth)
	}
}

func TestItemOK(t *testing.T) {
	var good []impl.Item
	for number := 1; number <= wordNumbers; number++ {
		good = append(good, impl.Item{Kind: 1, Value: number})
	}
	for _, n := range cells() {
		good = append(good, impl.Item{Kind: 2, Value: n})
	}
	for kind := 3; kind <= 13; kind++ {
		good = append(good, impl.Item{Kind: kind})
	}
	for _, x := range good {
		if !impl.ItemOK(x) {
			t.Errorf("item %v is refused", x)
		}
	}
	for _, x := range badItems() {
		if impl.ItemOK(x) {
			t.Errorf("item %v is accepted", x)
		}
	}
}

// TestItemInEachStructure has, for each kind and each innermost structure, also
// none, which structure is innermost then: 0 none, -1 if the item does not fit.
func TestItemInEachStructure(t *testing.T) {
	structures := []string{"", "IF", "IF ELSE", "BEGIN", "BEGIN WHILE", "DO"}
	kinds := []int{0, 3, 4, 6, 8, 10}
	for kind, then := range map[int][6]int{
		1: {0, 3, 4, 6, 8, 10}, 2: {0, 3, 4, 6, 8, 10}, 13: {0, 3, 4, 6, 8, 10},
		3: {3, 3, 3, 3, 3, 3}, 6: {6, 6, 6, 6, 6, 6}, 10: {10, 10, 10, 10, 10, 10},
		4: {-1, 4, -1, -1, -1, -1}, 5: {-1, 0, 0, -1, -1, -1},
		7: {-1, -1, -1, 0, -1, -1}, 8: {-1, -1, -1, 8, -1, -1}, 9: {-1, -1, -1, -1, 0, -1},
		11: {-1, -1, -1, -1, -1, 0}, 12: {-1, -1, -1, -1, -1, 0},
	} {
		for i, structure := range structures {
			for _, outer := range []string{"", "DO ", "IF 5 ", "5 BEGIN ", "BEGIN WHILE IF ELSE "} {
				before := itemsOf(outer + structure)
				list := append(slices.Clone(before), someItem(kind))
				outside, _ := leftOpen(itemsOf(outer))
				if i == 0 && len(outside) > 0 {
					continue
				}
				if then[i] < 0 {
					wantOpen(t, list, len(list), nil, impl.ErrControl)
					wantChecked(t, list, len(before), impl.ErrControl)
					continue
				}
				want := outside
				if opens := kind == 3 || kind == 6 || kind == 10; opens && i > 0 {
					want = append(want, kinds[i])
				}
				if then[i] > 0 {
					want = append(want, then[i])
				}
				wantOpen(t, list, len(list), want, impl.OK)
				if len(want) > 0 {
					wantChecked(t, list, len(list), impl.ErrControl)
				} else {
					wantChecked(t, list, 0, impl.OK)
				}
			}
		}
	}
}

func TestAcceptedItems(t *testing.T) {
	for _, text := range []string{
		"", "w1", "5", "RECURSE", "w1 w2 w103 5 RECURSE", "IF THEN", "IF ELSE THEN", "BEGIN UNTIL", "BEGIN WHILE REPEAT", "DO LOOP", "DO +LOOP",
		"IF THEN IF THEN", "IF IF THEN ELSE IF ELSE THEN THEN", "BEGIN BEGIN UNTIL WHILE BEGIN WHILE REPEAT REPEAT", "DO DO LOOP +LOOP DO LOOP",
		"IF BEGIN DO 5 LOOP WHILE w1 REPEAT ELSE DO IF THEN +LOOP THEN", "5 IF w1 ELSE RECURSE THEN w2",
	} {
		list := itemsOf(text)
		wantChecked(t, list, 0, impl.OK)
		wantOpen(t, list, len(list), nil, impl.OK)
		wantNesting(t, list)
	}
}

func TestRefusedItems(t *testing.T) {
	for _, v := range []struct {
		text string
		at   int
	}{
		{"THEN", 0}, {"w1 THEN", 1}, {"IF", 1}, {"IF ELSE", 2}, {"BEGIN", 1}, {"BEGIN WHILE", 2}, {"DO", 1}, {"5 IF 6", 3}, {"IF THEN THEN", 2}, {"IF ELSE ELSE THEN", 2},
		{"BEGIN WHILE WHILE REPEAT", 2}, {"BEGIN REPEAT", 1}, {"BEGIN WHILE UNTIL", 2}, {"DO ELSE LOOP", 1}, {"DO WHILE LOOP", 1}, {"IF WHILE THEN", 1}, {"IF ELSE WHILE THEN", 2},
		{"BEGIN IF UNTIL THEN", 2}, {"DO IF LOOP THEN", 2}, {"IF DO THEN LOOP", 2}, {"BEGIN DO UNTIL", 2}, {"DO BEGIN +LOOP", 2}, {"DO LOOP LOOP", 2}, {"DO LOOP +LOOP", 2},
		{"IF THEN ELSE THEN", 2}, {"BEGIN UNTIL REPEAT", 2}, {"IF DO IF THEN LOOP", 5}, {"THEN IF", 0}, {"LOOP THEN", 0}, {"IF REPEAT UNTIL", 1},
	} {
		wantChecked(t, itemsOf(v.text), v.at, impl.ErrControl)
		wantNesting(t, itemsOf(v.text))
	}
}

// everyList visits the lists of items of these kinds that have at most size
// items behind the first ones, all of which fit but for the last one.
func everyList(first []impl.Item, kinds []int, size int, visit func(list []impl.Item)) {
	visit(first)
	if _, fits := leftOpen(first); size == 0 || !fits {
		return
	}
	for _, kind := range kinds {
		everyList(append(slices.Clone(first), someItem(kind)), kinds, size-1, visit)
	}
}

func TestNestingOfEveryShortList(t *testing.T) {
	visited := 0
	everyList(nil, []int{1, 3, 4, 5, 6, 7, 8, 9, 10, 11, 12}, 6, func(list []impl.Item) {
		visited++
		wantNesting(t, list)
	})
	if visited < 50000 {
		t.Errorf("%d lists", visited)
	}
}

// TestNestingBehindAMisfit has items behind the first one that does not fit.
func TestNestingBehindAMisfit(t *testing.T) {
	everyList(nil, []int{2, 3, 4, 5, 6, 7, 8, 9, 10, 12}, 3, func(list []impl.Item) {
		for _, text := range []string{"THEN", "REPEAT 5", "5 IF THEN", "DO LOOP LOOP"} {
			wantNesting(t, append(slices.Clone(list), itemsOf(text)...))
		}
	})
}

func TestNestingUpToMaxDepth(t *testing.T) {
	opens := []string{"IF", "IF 5 ELSE", "BEGIN", "BEGIN w1 WHILE", "DO", "DO 5"}
	ends := []string{"THEN", "THEN", "UNTIL", "REPEAT", "LOOP", "+LOOP"}
	kinds := []int{3, 4, 6, 8, 10, 10}
	for first := range opens {
		var begin, end []string
		var open []int
		for depth := range maxDepth {
			i := (first + depth) % len(opens)
			begin, end, open = append(begin, opens[i]), append(end, ends[i]), append(open, kinds[i])
		}
		slices.Reverse(end)
		eight := itemsOf(strings.Join(begin, " "))
		closed := slices.Concat(eight, itemsOf(strings.Join(end, " ")))
		wantOpen(t, closed, len(eight), open, impl.OK)
		wantChecked(t, closed, 0, impl.OK)
		wantChecked(t, eight, len(eight), impl.ErrControl)
		wantNesting(t, closed)
		for _, ninth := range []string{"IF", "BEGIN", "DO", "RECURSE IF THEN", "5 BEGIN UNTIL", "w1 DO LOOP"} {
			at := len(eight) + len(strings.Fields(ninth))/3
			list := slices.Concat(eight, itemsOf(ninth))
			wantChecked(t, list, at, impl.ErrControl)
			wantOpen(t, list, at, open, impl.OK)
			wantOpen(t, list, at+1, nil, impl.ErrControl)
			wantNesting(t, list)
		}
		// Where one of the eight is closed, there is room for another one.
		again := slices.Concat(eight, itemsOf(end[0]+" IF THEN DO LOOP "+begin[maxDepth-1]))
		wantOpen(t, again, len(again), open, impl.OK)
	}
}

// picker picks the same numbers in every run.
type picker struct{ state int }

func (p *picker) below(n int) int {
	p.state = (p.state*1103515245 + 12345) % (1 << 31)
	return (p.state >> 12) % n
}

// pickList returns a list of size items that is properly nested.
func pickList(p *picker, size int) []impl.Item {
	var list []impl.Item
	for {
		open, _ := leftOpen(list)
		if len(list)+len(open) >= size {
			return closedList(list, open)
		}
		next := append(slices.Clone(list), pickItem(p))
		if then, fits := leftOpen(next); fits && len(next)+len(then) <= size {
			list = next
		}
	}
}

// closedList closes each structure with one item.
func closedList(list []impl.Item, open []int) []impl.Item {
	for _, kind := range slices.Backward(open) {
		list = append(list, impl.Item{Kind: map[int]int{3: 5, 4: 5, 6: 7, 8: 9, 10: 11}[kind]})
	}
	return list
}

func pickItem(p *picker) impl.Item {
	x := impl.Item{Kind: p.below(13) + 1}
	switch x.Kind {
	case 1:
		x.Value = p.below(wordNumbers) + 1
	case 2:
		x.Value = cells()[p.below(len(cells()))]
	}
	return x
}

func TestNestingOfLongLists(t *testing.T) {
	p := &picker{state: 1}
	for size := range maxItems + 1 {
		for range 4 {
			list := pickList(p, size)
			wantChecked(t, list, 0, impl.OK)
			wantNesting(t, list)
			for range min(size, 5) {
				other := slices.Clone(list)
				other[p.below(size)] = pickItem(p)
				wantNesting(t, other)
			}
		}
	}
}

func TestOpenAtEveryPlace(t *testing.T) {
	list := itemsOf("5 IF BEGIN w1 WHILE DO RECURSE LOOP REPEAT ELSE BEGIN UNTIL THEN w2")
	for place, want := range [][]int{
		nil, nil, {3}, {3, 6}, {3, 6}, {3, 8}, {3, 8, 10}, {3, 8, 10}, {3, 8}, {3}, {4}, {4, 6}, {4}, nil, nil,
	} {
		wantOpen(t, list, place, want, impl.OK)
	}
	for _, list := range [][]impl.Item{nil, list, itemsOf("THEN THEN"), itemsOf("IF IF")} {
		for _, place := range []int{minInt, minCell, -2, -1, len(list) + 1, len(list) + 2, maxItems + 1, maxCell, 1 << 32, maxInt} {
			wantOpen(t, list, place, nil, impl.ErrRange)
		}
	}
}

func TestOpenAtWithAMisfit(t *testing.T) {
	list := itemsOf("IF DO THEN LOOP BEGIN")
	for place, want := range [][]int{nil, {3}, {3, 10}} {
		wantOpen(t, list, place, want, impl.OK)
	}
	for _, place := range []int{3, 4, 5} {
		wantOpen(t, list, place, nil, impl.ErrControl)
	}
	wantOpen(t, itemsOf("THEN"), 0, nil, impl.OK)
	wantOpen(t, itemsOf("THEN"), 1, nil, impl.ErrControl)
}

// badItemLists has lists with each of the common errors of chapter 8, which
// come before those of a place or an address.
func badItemLists() map[int][][]impl.Item {
	bad := map[int][][]impl.Item{
		impl.ErrLong: {make([]impl.Item, impl.MaxList+1), slices.Repeat(itemsOf("5"), impl.MaxList+1), slices.Repeat(itemsOf("THEN"), 2*impl.MaxList)},
		impl.ErrMany: {make([]impl.Item, maxItems+1), slices.Repeat(itemsOf("5"), maxItems+1), slices.Repeat(itemsOf("THEN"), maxItems+1), slices.Repeat(itemsOf("5"), impl.MaxList), make([]impl.Item, impl.MaxList)},
	}
	for _, x := range badItems() {
		for _, text := range []string{"", "5", "THEN", "THEN IF"} {
			list := append(itemsOf(text), x)
			bad[impl.ErrBad] = append(bad[impl.ErrBad], list, slices.Insert(slices.Clone(list), 0, x), append(slices.Clone(list), itemsOf("LOOP")...))
		}
	}
	bad[impl.ErrBad] = append(bad[impl.ErrBad], append(slices.Repeat(itemsOf("5"), maxItems-1), impl.Item{}))
	return bad
}

func TestInvalidItemLists(t *testing.T) {
	for wantCode, lists := range badItemLists() {
		for _, list := range lists {
			wantChecked(t, list, 0, wantCode)
			for _, place := range []int{minInt, -1, 0, 1, len(list), len(list) + 1, maxInt} {
				wantOpen(t, list, place, nil, wantCode)
			}
			if size, code := impl.SizeOf(list); size != 0 || code != wantCode {
				t.Errorf("SizeOf(%v) = %d, %d, not %d", list, size, code, wantCode)
			}
			for _, at := range []int{minInt, -1, 0, maxCode, maxCode + 1, maxInt} {
				for _, self := range []int{minInt, 0, 1, wordNumbers + 1, maxInt} {
					wantCompiled(t, list, at, self, nil, wantCode)
				}
			}
		}
	}
}

func TestListsUpToMaxItems(t *testing.T) {
	for _, text := range []string{"5", "w1", "RECURSE"} {
		for _, size := range []int{0, 1, maxItems - 1, maxItems} {
			list := slices.Repeat(itemsOf(text), size)
			wantChecked(t, list, 0, impl.OK)
			wantOpen(t, list, size, nil, impl.OK)
		}
	}
	wantChecked(t, slices.Repeat(itemsOf("IF THEN"), maxItems/2), 0, impl.OK)
	wantChecked(t, append(slices.Repeat(itemsOf("5"), maxItems-1), itemsOf("IF")...), maxItems, impl.ErrControl)
	wantChecked(t, append(slices.Repeat(itemsOf("5"), maxItems-1), itemsOf("THEN")...), maxItems-1, impl.ErrControl)
	wantNesting(t, slices.Repeat(itemsOf("BEGIN UNTIL"), maxItems/2))
}
