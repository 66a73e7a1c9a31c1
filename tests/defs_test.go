package tests

// Promise 9, the definitions: which ones are those of a machine.

import (
	"fmt"
	"slices"
	"strings"
	"testing"

	"loop.example/g00787/impl"
)

// sourceItems reads a definition in which the names of structures, kernel words
// and RECURSE, w86 for the word with number 86, and numbers are items.
func sourceItems(source string) []impl.Item {
	var list []impl.Item
	names := slices.Concat(kernelNames()...)
	for _, part := range strings.Fields(source) {
		if number := slices.Index(names, part) + 1; number > 0 && !slices.Contains(itemNames(), part) {
			part = fmt.Sprint("w", number)
		}
		list = append(list, itemsOf(part)...)
	}
	return list
}

// scriptOf has the machine of machineOf, with a word from w86 on for each of
// the sources, and their definitions.
func scriptOf(stacks string, sources ...string) (impl.Machine, []impl.Def) {
	m := machineOf(stacks)
	m.Code = []int{0, 1, 0} // no word begins here
	var defs []impl.Def
	for _, source := range sources {
		items := sourceItems(source)
		defs = append(defs, defined(&m, items))
	}
	return m, defs
}

// defined appends a word and its code, and returns its definition.
func defined(m *impl.Machine, items []impl.Item) impl.Def {
	number := len(m.Words) + 1
	code, _ := blockCode(items, len(m.Code), number)
	m.Words = append(m.Words, impl.Word{Name: fmt.Sprint("word", number), Kind: impl.WdColon, Value: len(m.Code)})
	m.Code = append(append(m.Code, code...), 53)
	return impl.Def{Word: number, Items: items}
}

// someSources have each kind of item, and some of them are equal or empty.
func someSources() []string {
	return []string{
		"", "DUP *", "IF 5 ELSE w84 THEN RECURSE", "", "BEGIN w86 WHILE w87 REPEAT", "3 0 DO I LOOP", "DUP *", "DO w85 +LOOP", "BEGIN 1- DUP UNTIL w88",
	}
}

func clonedDefs(defs []impl.Def) []impl.Def {
	defs = slices.Clone(defs)
	for i, x := range defs {
		defs[i].Items = slices.Clone(x.Items)
	}
	return defs
}

func wantDefs(t *testing.T, what string, m impl.Machine, defs []impl.Def, want bool) {
	t.Helper()
	if !impl.MachineOK(m) {
		t.Fatalf("%s: the machine is invalid", what)
	}
	if got := impl.DefsOK(m, defs); got != want {
		t.Errorf("%s: DefsOK of %v with the code %v = %v", what, defs, m.Code, got)
	}
	if want {
		return
	}
	for _, token := range []int{1, 86, 0, 57} {
		if got, throw, code := impl.RunTree(m, defs, token); code != impl.ErrBad && len(defs) <= impl.MaxList || throw != 0 || !isZeroMachine(got) {
			t.Errorf("%s: RunTree of %d = %s, %d, %d", what, token, machineText(got), throw, code)
		}
	}
}

func TestDefinitionsOfMachines(t *testing.T) {
	wantDefs(t, "a new machine", impl.NewMachine(), nil, true)
	wantDefs(t, "a new machine", impl.NewMachine(), []impl.Def{}, true)
	for size := range len(someSources()) + 1 {
		m, defs := scriptOf("5", someSources()[:size]...)
		wantDefs(t, fmt.Sprint(size, " definitions"), m, defs, true)
		m.Code = append(m.Code, 1, 2, 3)
		wantDefs(t, fmt.Sprint(size, " definitions and more code"), m, defs, true)
		m.Calls, m.Fuel, m.Ip = []impl.Call{{Ip: 7}}, 0, maxCell
		wantDefs(t, fmt.Sprint(size, " definitions with calls"), m, defs, true)
	}
	m, defs := scriptOf("", slices.Repeat([]string{"DUP RECURSE"}, maxUser-2)...)
	wantDefs(t, "as many definitions as there is room for", m, defs, true)
	for i := range defs {
		defs[i].Items = slices.Clip(defs[i].Items)
	}
	wantDefs(t, "definitions without capacity", m, defs, true)
}

// TestDefinitionsBetweenOtherWords has variables and constants in between.
func TestDefinitionsBetweenOtherWords(t *testing.T) {
	m := impl.NewMachine()
	var defs []impl.Def
	for _, source := range someSources()[:6] {
		defs = append(defs, defined(&m, sourceItems(source)))
		m.Words = append(m.Words, impl.Word{Name: "v", Kind: impl.WdVar, Value: 4096}, impl.Word{Name: "c", Kind: impl.WdConst, Value: 3})
	}
	wantDefs(t, "definitions between other words", m, defs, true)
	for i := range defs {
		other := clonedDefs(defs)
		other[i].Word++
		wantDefs(t, fmt.Sprint("definition ", i, " of another word"), m, other, false)
	}
}

// TestDefinitionsThatShareCode has words that begin within the code of others.
func TestDefinitionsThatShareCode(t *testing.T) {
	m, defs := scriptOf("5", "DUP 5 *", "DUP 5 *")
	m.Words[86].Value = m.Words[85].Value
	wantDefs(t, "two words with the same code", m, defs, true)
	for skip, source := range map[int]string{1: "5 *", 3: "*", 4: ""} {
		m.Words[86].Value = m.Words[85].Value + skip
		defs[1].Items = sourceItems(source)
		wantDefs(t, "a word in the code of another", m, defs, true)
	}
	m.Words[86].Value, defs[1].Items = m.Words[85].Value+2, sourceItems("w5 *")
	wantDefs(t, "a word that begins with an operand", m, defs, true)
	defs[1].Items = sourceItems("5 *")
	wantDefs(t, "a word that begins with an operand", m, defs, false)
}

func TestDefinitionsInWrongPlaces(t *testing.T) {
	m, defs := scriptOf("5", someSources()...)
	for i := range defs {
		wantDefs(t, fmt.Sprint("without definition ", i), m, slices.Delete(clonedDefs(defs), i, i+1), false)
		wantDefs(t, fmt.Sprint("with definition ", i, " twice"), m, slices.Insert(clonedDefs(defs), i, defs[i]), false)
		wantDefs(t, fmt.Sprint("with definition ", i, " again at the end"), m, append(clonedDefs(defs), defs[i]), false)
		for k := range i {
			other := clonedDefs(defs)
			other[i], other[k] = other[k], other[i]
			wantDefs(t, fmt.Sprint("definitions ", i, " and ", k, " swapped"), m, other, false)
			other = clonedDefs(defs)
			other[i] = other[k]
			wantDefs(t, fmt.Sprint("definition ", k, " in place of ", i), m, other, false)
		}
	}
	wantDefs(t, "no definitions", m, nil, false)
	slices.Reverse(defs)
	wantDefs(t, "definitions in decreasing order", m, defs, false)
}

func TestDefinitionsOfOtherWords(t *testing.T) {
	m, defs := scriptOf("5", "DUP", "DUP")
	m.Words = append(m.Words, impl.Word{Name: "v", Kind: impl.WdVar, Value: 4096})
	for _, word := range []int{minInt, minCell, -1, 0, 1, 53, 57, 63, 67, kernelSize, 84, 85, 88, 89, 90, wordNumbers, 1<<32 + 86, maxInt} {
		extra := impl.Def{Word: word, Items: sourceItems("DUP")}
		for place := range 3 {
			wantDefs(t, fmt.Sprint("a definition of ", word), m, slices.Insert(clonedDefs(defs), place, extra), false)
		}
		for place := range 2 {
			other := clonedDefs(defs)
			other[place].Word = word
			wantDefs(t, fmt.Sprint("a definition of ", word, " in place of another"), m, other, false)
		}
	}
	none, _ := scriptOf("")
	wantDefs(t, "a definition without words", none, defs[:1], false)
	wantDefs(t, "a zero definition", impl.NewMachine(), make([]impl.Def, 1), false)
	wantDefs(t, "many definitions", m, slices.Repeat(defs, impl.MaxList/2), false)
	wantDefs(t, "too many definitions", m, slices.Repeat(defs, impl.MaxList/2+1), false)
}

func TestDefinitionsWithOtherItems(t *testing.T) {
	m, defs := scriptOf("5", someSources()...)
	for i, x := range defs {
		spoiled := [][]impl.Item{append(slices.Clone(x.Items), itemsOf("5")...), itemsOf("THEN"), itemsOf("IF"), itemsOf("w1 IF ELSE"), {{}}, make([]impl.Item, maxItems), make([]impl.Item, maxItems+1), make([]impl.Item, impl.MaxList+1), slices.Repeat(itemsOf("w1"), maxItems+1), itemsOf("w85 w85")}
		for k := range x.Items {
			spoiled = append(spoiled, slices.Delete(slices.Clone(x.Items), k, k+1))
			for _, other := range itemsOf("w17 5 RECURSE THEN LOOP IF") {
				list := slices.Clone(x.Items)
				list[k] = other
				if other != x.Items[k] {
					spoiled = append(spoiled, list)
				}
			}
			list := slices.Clone(x.Items)
			list[k].Value += 1 << 32
			spoiled = append(spoiled, list)
		}
		for k, list := range spoiled {
			other := clonedDefs(defs)
			other[i].Items = list
			wantDefs(t, fmt.Sprint("definition ", i, " with other items ", k), m, other, false)
		}
	}
	// The code of an ItSelf and of an ItWord is the same.
	m, defs = scriptOf("5", "w86 RECURSE")
	defs[0].Items = sourceItems("RECURSE w86")
	wantDefs(t, "other items with the same code", m, defs, true)
}
