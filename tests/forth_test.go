package tests

// Promise 13, the Forth itself: which ones are valid, and which two are the
// same.

import (
	"fmt"
	"slices"
	"strings"
	"testing"

	"loop.example/g00787/impl"
)

// equalForths does not rely on SameForth.
func equalForths(a, b impl.Forth) bool {
	return equalMachines(a.Machine, b.Machine) && equalDefs(a.Defs, b.Defs) &&
		a.Compiling == b.Compiling && a.Name == b.Name && slices.Equal(a.Items, b.Items)
}

func isZeroForth(f impl.Forth) bool {
	return equalForths(f, impl.Forth{})
}

func clonedForth(f impl.Forth) impl.Forth {
	f.Machine, f.Defs, f.Items = clonedMachine(f.Machine), clonedDefs(f.Defs), slices.Clone(f.Items)
	return f
}

// closedForth has no open definition, and a word from w86 on for each of the
// sources.
func closedForth(stacks string, sources ...string) impl.Forth {
	m, defs := scriptOf(stacks, sources...)
	return impl.Forth{Machine: m, Defs: defs}
}

// openForth has a definition that is open in several structures.
func openForth() impl.Forth {
	f := closedForth("5 6|7", someSources()...)
	f.Compiling, f.Name, f.Items = true, "open", sourceItems("1 IF w86 BEGIN RECURSE DUP WHILE w85")
	return f
}

// forthsTurned has one Forth for each way to turn one with an open definition.
func forthsTurned(turns ...func(f *impl.Forth)) []impl.Forth {
	var list []impl.Forth
	for _, turn := range turns {
		f := openForth()
		turn(&f)
		list = append(list, f)
	}
	return list
}

func wordNames() []string {
	return []string{"a", "open", "OPEN", "dup", "if", ";", "[']", "5", "-1", "(", `\`, "(LIT)", "!", "~", "twelve-bytes"}
}

func notWordNames() []string {
	return []string{"", " ", "a b", " a", "a ", "\t", "a\n", "\x00", "\x7f", "\x80", "é", "thirteenbytes", strings.Repeat("a", maxLine), strings.Repeat("a", impl.MaxText+1)}
}

// openItems has lists that fit, of every length and depth, and with every token.
func openItems() [][]impl.Item {
	lists := [][]impl.Item{nil, {}}
	p := &picker{state: 8}
	for size := range maxItems + 1 {
		list := pickList(p, size)
		for i, x := range list {
			if x.Kind == impl.ItWord {
				list[i].Value = pickWordOf(p, kernelSize+2)
			}
		}
		for place := range size {
			if place%7 == size%7 {
				lists = append(lists, list[:place])
			}
		}
		lists = append(lists, list)
	}
	for _, name := range []string{"IF", "BEGIN", "DO", "IF ELSE", "BEGIN WHILE"} {
		for depth := 1; depth <= maxDepth; depth++ {
			lists = append(lists, itemsOf(strings.Repeat(name+" ", depth)))
		}
	}
	for number := range kernelSize + 11 {
		if !slices.Contains(notTokens(dictOf(11)), number) && number > 0 {
			lists = append(lists, itemsOf(fmt.Sprint("IF w", number)))
		}
	}
	return append(lists, fiveItems(maxItems-1), fiveItems(maxItems), append(fiveItems(maxItems-1), itemsOf("IF")...))
}

func fiveItems(size int) []impl.Item {
	return slices.Repeat(itemsOf("5"), size)
}

func validForths() []impl.Forth {
	list := []impl.Forth{impl.NewForth(), openForth()}
	for size := range len(someSources()) + 1 {
		list = append(list, closedForth("5 6|7", someSources()[:size]...))
	}
	turned := func(turn func(f *impl.Forth)) {
		list = append(list, forthsTurned(turn)...)
	}
	for _, name := range wordNames() {
		turned(func(f *impl.Forth) { f.Name = name })
	}
	for _, items := range openItems() {
		turned(func(f *impl.Forth) { f.Items = items })
	}
	for _, d := range validData() {
		turned(func(f *impl.Forth) { f.Machine.Data = d })
	}
	for _, h := range validHosts() {
		turned(func(f *impl.Forth) { f.Machine.Host = h })
	}
	for _, fuel := range []int{0, 1, maxFuel} {
		turned(func(f *impl.Forth) { f.Machine.Fuel, f.Machine.Ip = fuel, maxCell-fuel })
	}
	turned(func(f *impl.Forth) { f.Compiling, f.Name, f.Items = false, "", nil })
	turned(func(f *impl.Forth) { f.Compiling, f.Name, f.Items = false, "", []impl.Item{} })
	turned(func(f *impl.Forth) { f.Machine.Code = append(f.Machine.Code, 1, 2, 3) })
	return append(list, otherForths()...)
}

// otherForths is full of words or of code, or has a definition with numbers
// that are no tokens, which only an open one must not have.
func otherForths() []impl.Forth {
	return []impl.Forth{
		{Machine: impl.NewMachine(), Compiling: true, Name: "a"},
		closedForth("", slices.Repeat([]string{"DUP RECURSE"}, maxUser-2)...),
		closedForth("", "w57 w73 w103"),
		withCells(impl.NewForth(), maxCode),
	}
}

// withCells has so many cells of code, none of which is part of a word.
func withCells(f impl.Forth, size int) impl.Forth {
	f.Machine.Code = append(f.Machine.Code, make([]int, size-len(f.Machine.Code))...)
	return f
}

// badForths are valid but for one part.
func badForths() []impl.Forth {
	list := slices.Concat([]impl.Forth{{}}, badMachineForths(), badDefForths())
	turned := func(turn func(f *impl.Forth)) {
		list = append(list, forthsTurned(turn)...)
	}
	turned(func(f *impl.Forth) { f.Compiling = false })
	turned(func(f *impl.Forth) { f.Compiling, f.Name = false, "" })
	turned(func(f *impl.Forth) { f.Compiling, f.Items = false, nil })
	turned(func(f *impl.Forth) { f.Compiling, f.Name, f.Items = false, "", itemsOf("5") })
	for _, name := range notWordNames() {
		turned(func(f *impl.Forth) { f.Name = name })
		turned(func(f *impl.Forth) { f.Name, f.Items = name, nil })
		if name != "" {
			turned(func(f *impl.Forth) { f.Compiling, f.Name, f.Items = false, name, nil })
		}
	}
	for _, items := range notOpenItems() {
		turned(func(f *impl.Forth) { f.Items = items })
		turned(func(f *impl.Forth) { f.Compiling, f.Name, f.Items = false, "", items })
	}
	return list
}

func badMachineForths() []impl.Forth {
	var list []impl.Forth
	for _, m := range badMachines() {
		m.Calls = nil
		if !impl.MachineOK(m) {
			list = append(list, impl.Forth{Machine: m})
		}
	}
	turned := func(turn func(m *impl.Machine)) {
		f, open := closedForth("5 6|7", someSources()...), openForth()
		turn(&f.Machine)
		turn(&open.Machine)
		list = append(list, f, open)
	}
	for _, d := range badData() {
		turned(func(m *impl.Machine) { m.Data = d })
	}
	for _, h := range badHosts() {
		turned(func(m *impl.Machine) { m.Host = h })
	}
	for _, fuel := range []int{minInt, -1, maxFuel + 1, maxInt} {
		turned(func(m *impl.Machine) { m.Fuel = fuel })
		turned(func(m *impl.Machine) { m.Ip = min(fuel, -1) })
	}
	turned(func(m *impl.Machine) { m.Words[0].Name = "dup" })
	turned(func(m *impl.Machine) { m.Words = append(m.Words, impl.Word{Name: "", Kind: impl.WdConst}) })
	turned(func(m *impl.Machine) { m.Code[0] = maxCell + 1 })
	turned(func(m *impl.Machine) { m.Code = append(m.Code, make([]int, maxCode)...) })
	for _, calls := range [][]impl.Call{{{}}, {{Floor: 1}}, {{Catch: true}, {}}, {{Ip: -1}}, make([]impl.Call, maxCalls), make([]impl.Call, maxCalls+1)} {
		turned(func(m *impl.Machine) { m.Calls = calls })
	}
	return list
}

// badDefForths has definitions that are not those of the machine.
func badDefForths() []impl.Forth {
	var list []impl.Forth
	turned := func(turn func(f *impl.Forth)) {
		f, open := closedForth("5 6|7", someSources()...), openForth()
		turn(&f)
		turn(&open)
		list = append(list, f, open)
	}
	turned(func(f *impl.Forth) { f.Defs = nil })
	turned(func(f *impl.Forth) { f.Defs = f.Defs[1:] })
	turned(func(f *impl.Forth) { f.Defs = f.Defs[:len(f.Defs)-1] })
	turned(func(f *impl.Forth) { f.Defs = append(f.Defs, f.Defs[0]) })
	turned(func(f *impl.Forth) { f.Defs = slices.Repeat(f.Defs, impl.MaxList) })
	turned(func(f *impl.Forth) { slices.Reverse(f.Defs) })
	turned(func(f *impl.Forth) { f.Defs[0], f.Defs[1] = f.Defs[1], f.Defs[0] })
	turned(func(f *impl.Forth) { f.Defs[1].Word++ })
	turned(func(f *impl.Forth) { f.Defs[1].Items[0].Value++ })
	turned(func(f *impl.Forth) { f.Defs[1].Items = f.Defs[1].Items[1:] })
	turned(func(f *impl.Forth) { f.Defs[2].Items = itemsOf("IF") })
	turned(func(f *impl.Forth) { f.Machine.Code[len(f.Machine.Code)-1]++ })
	turned(func(f *impl.Forth) { f.Machine.Code = f.Machine.Code[:len(f.Machine.Code)-1] })
	turned(func(f *impl.Forth) { f.Machine.Words[86].Value++ })
	turned(func(f *impl.Forth) { f.Machine.Words = f.Machine.Words[:len(f.Machine.Words)-1] })
	turned(func(f *impl.Forth) {
		f.Machine.Words = append(f.Machine.Words, impl.Word{Name: "a", Kind: impl.WdColon})
	})
	turned(func(f *impl.Forth) { f.Machine.Words[84].Kind, f.Machine.Words[84].Value = impl.WdColon, 1 })
	return list
}

// notOpenItems has lists that no open definition has.
func notOpenItems() [][]impl.Item {
	lists := [][]impl.Item{fiveItems(maxItems + 1), fiveItems(2 * maxItems), fiveItems(impl.MaxList + 1), append(fiveItems(maxItems), itemsOf("IF")...), make([]impl.Item, 1)}
	for _, x := range badItems() {
		lists = append(lists, []impl.Item{x}, append(itemsOf("5 IF"), x))
	}
	for _, text := range []string{"THEN", "5 ELSE", "IF UNTIL", "IF ELSE ELSE", "IF LOOP", "BEGIN THEN", "BEGIN REPEAT", "BEGIN WHILE UNTIL", "BEGIN WHILE WHILE", "DO THEN", "DO UNTIL", "IF THEN THEN", "DO LOOP +LOOP", "BEGIN UNTIL LOOP 5 5", "REPEAT 5"} {
		lists = append(lists, itemsOf(text))
	}
	for _, name := range []string{"IF", "BEGIN", "DO"} {
		lists = append(lists, itemsOf(strings.Repeat(name+" ", maxDepth+1)))
	}
	for _, n := range notTokens(openForth().Machine.Words) {
		lists = append(lists, []impl.Item{{Kind: impl.ItWord, Value: n}}, append(sourceItems("IF DUP"), impl.Item{Kind: impl.ItWord, Value: n}), []impl.Item{{Kind: impl.ItWord, Value: n}, {Kind: impl.ItIf}, {Kind: impl.ItThen}})
	}
	return lists
}

func TestNewForth(t *testing.T) {
	want := impl.Forth{Machine: impl.NewMachine()}
	if got := impl.NewForth(); !equalForths(got, want) || !impl.ForthOK(got) {
		t.Errorf("NewForth() = %v", got)
	}
}

func TestForthOK(t *testing.T) {
	for i, f := range validForths() {
		if !impl.ForthOK(f) {
			t.Errorf("valid Forth %d is refused: %s", i, forthText(f))
		}
	}
	for i, f := range badForths() {
		if impl.ForthOK(f) {
			t.Errorf("invalid Forth %d is accepted: %s", i, forthText(f))
		}
	}
}

// TestTokensOfOpenDefinitions looks at every number, behind dictionaries of
// every length.
func TestTokensOfOpenDefinitions(t *testing.T) {
	for size := range len(someSources()) + 1 {
		f := closedForth("", someSources()[:size]...)
		f.Compiling, f.Name = true, "a"
		for number := 1; number <= wordNumbers; number++ {
			f.Items = itemsOf(fmt.Sprint("5 w", number))
			want := number <= len(f.Machine.Words) && !slices.Contains(notTokens(f.Machine.Words), number)
			if impl.ForthOK(f) != want {
				t.Errorf("ForthOK with the word %d of %d is %v", number, len(f.Machine.Words), !want)
			}
		}
	}
}

// forthVariants differ from openForth in one field each.
func forthVariants() []impl.Forth {
	list := forthsTurned(
		func(f *impl.Forth) { f.Compiling, f.Name, f.Items = false, "", nil },
		func(f *impl.Forth) { f.Name = "Open" },
		func(f *impl.Forth) { f.Name = "opens" },
		func(f *impl.Forth) { f.Name = "ope" },
		func(f *impl.Forth) { f.Items = nil },
		func(f *impl.Forth) { f.Items = f.Items[:len(f.Items)-1] },
		func(f *impl.Forth) { f.Items = append(f.Items, f.Items[0]) },
		func(f *impl.Forth) { f.Items[0].Value++ },
		func(f *impl.Forth) { f.Items[0].Kind = impl.ItWord },
		func(f *impl.Forth) { f.Items[1].Kind = impl.ItBegin },
		func(f *impl.Forth) { f.Items[2].Value++ },
		func(f *impl.Forth) { f.Items[len(f.Items)-1].Value-- },
		// These two have other items with the same code.
		func(f *impl.Forth) { f.Defs[2].Items[len(f.Defs[2].Items)-1] = itemsOf("w88")[0] },
		func(f *impl.Forth) { f.Defs[5].Items = sourceItems("w57 w3 0 DO I LOOP") },
		func(f *impl.Forth) {
			f.Defs[4].Items[1] = itemsOf("w85")[0]
			f.Machine.Code[f.Machine.Words[89].Value] = 85
		},
		func(f *impl.Forth) { f.Machine.Words[len(f.Machine.Words)-1].Name = "other" },
		func(f *impl.Forth) { f.Machine.Words[kernelSize].Name = "Var" },
		func(f *impl.Forth) { f.Machine.Words[kernelSize].Value += 4 },
		func(f *impl.Forth) { f.Machine.Words[kernelSize+1].Value++ },
		func(f *impl.Forth) { f.Machine.Words[kernelSize].Kind = impl.WdConst },
		func(f *impl.Forth) { f.Machine.Words = append(f.Machine.Words, f.Machine.Words[kernelSize]) },
		func(f *impl.Forth) { f.Machine.Code[0]++ },
		func(f *impl.Forth) { f.Machine.Code = append(f.Machine.Code, 0) },
		func(f *impl.Forth) { f.Machine.Ip++ },
		func(f *impl.Forth) { f.Machine.Fuel-- },
	)
	turned := func(turn func(f *impl.Forth)) {
		list = append(list, forthsTurned(turn)...)
	}
	for _, d := range variants(openForth().Machine.Data) {
		turned(func(f *impl.Forth) { f.Machine.Data = d })
	}
	for _, h := range hostVariants(openForth().Machine.Host) {
		turned(func(f *impl.Forth) { f.Machine.Host = h })
	}
	return list
}

func TestSameForth(t *testing.T) {
	valid := validForths()
	for i, a := range valid {
		if !impl.SameForth(a, clonedForth(a)) {
			t.Errorf("valid Forth %d is not the same as its copy", i)
		}
		for k, b := range valid[:60] {
			if impl.SameForth(a, b) != equalForths(a, b) {
				t.Errorf("SameForth of %d and %d", i, k)
			}
		}
	}
	for i, other := range forthVariants() {
		if !impl.ForthOK(other) {
			t.Fatalf("variant %d is not valid: %s", i, forthText(other))
		}
		if impl.SameForth(openForth(), other) || impl.SameForth(other, openForth()) {
			t.Errorf("variant %d passes for the same: %s", i, forthText(other))
		}
	}
}

func TestSameForthTakesNilForEmpty(t *testing.T) {
	a, b := closedForth("", ""), closedForth("", "")
	a.Items, a.Defs[0].Items, a.Machine.Calls = nil, []impl.Item{}, nil
	b.Items, b.Defs[0].Items, b.Machine.Calls = []impl.Item{}, nil, []impl.Call{}
	if !impl.SameForth(a, b) {
		t.Error("nil is not the same as an empty list")
	}
	c, d := impl.NewForth(), impl.NewForth()
	c.Defs, d.Defs = nil, []impl.Def{}
	if !impl.SameForth(c, d) {
		t.Error("nil is not the same as an empty list of definitions")
	}
}

func TestSameForthRefusesInvalidForths(t *testing.T) {
	for i, bad := range badForths() {
		if impl.SameForth(bad, bad) || impl.SameForth(bad, clonedForth(bad)) || impl.SameForth(bad, openForth()) || impl.SameForth(openForth(), bad) || impl.SameForth(bad, impl.NewForth()) || impl.SameForth(impl.NewForth(), bad) {
			t.Errorf("invalid Forth %d is the same as something", i)
		}
	}
}
