package tests

// Promise 1: no function panics or depends on earlier calls, equal arguments
// yield equal results, and beside a code other than 0 there are zero values.

import (
	"fmt"
	"slices"
	"strings"
	"testing"

	"loop.example/g00787/impl"
)

// outcome has room for the results of any function of chapters 1 to 12; a list
// of texts, words, cells, items or nodes stands in it as one text, and so do
// data, host and machine.
type outcome struct {
	number  int
	throw   int
	text    string
	yes     bool
	code    int
	problem string
}

type call struct {
	name string
	run  func() outcome
}

func (c call) outcome() (o outcome) {
	defer func() {
		if p := recover(); p != nil {
			o = outcome{problem: fmt.Sprint(p)}
		}
	}()
	return c.run()
}

func someNumbers() []int {
	return append(notCells(), minCell, -33, -32, -31, -2, -1, 0, 1, 2, 10, 16, 17, 19, 31, 32, 33, maxCell)
}

func someTexts() []string {
	return []string{"", "-", "--", "0", "-0", "7", "007", "-FF", "ff", "+1", "a_9", "9a", "ok", "same", "é", "\x00", "\xff\xfe", strings.Repeat("1", 32), strings.Repeat("1", 33), strings.Repeat("z", impl.MaxText), strings.Repeat("1", impl.MaxText+1)}
}

func allCalls() []call {
	return slices.Concat(callsOfNumbers(), callsOfTexts(), callsOfTwoCells(), callsOfLines(), callsOfData(), callsOfTwoData(), callsOfDicts(), callsOfPrims(), callsOfHosts(), callsOfFolds(), callsOfItems(), callsOfCompilations(), callsOfCode(), callsOfMachines(), callsOfTrees(), callsOfScripts(), callsOfForths(), callsOfActs(), callsOfSessions(), callsOfReports())
}

func callsOfNumbers() []call {
	var list []call
	for _, n := range someNumbers() {
		list = append(list,
			call{fmt.Sprint("CodeWord ", n), func() outcome { return outcome{text: impl.CodeWord(n)} }},
			call{fmt.Sprint("WrapCell ", n), func() outcome { return outcome{number: impl.WrapCell(n)} }},
			call{fmt.Sprint("CellOK ", n), func() outcome { return outcome{yes: impl.CellOK(n)} }},
			call{fmt.Sprint("Unsigned ", n), func() outcome {
				number, code := impl.Unsigned(n)
				return outcome{number: number, code: code}
			}},
		)
		for _, base := range someNumbers() {
			list = append(list, call{fmt.Sprint("CellText ", n, base), func() outcome {
				text, code := impl.CellText(n, base)
				return outcome{text: text, code: code}
			}})
		}
	}
	return list
}

func callsOfTexts() []call {
	var list []call
	for i, text := range someTexts() {
		list = append(list,
			call{fmt.Sprint("NameOK ", i), func() outcome { return outcome{yes: impl.NameOK(text)} }},
			call{fmt.Sprint("CodeOf ", i), func() outcome { return outcome{number: impl.CodeOf(text)} }},
		)
		for _, base := range someNumbers() {
			list = append(list, call{fmt.Sprint("ReadCell ", i, base), func() outcome {
				number, code := impl.ReadCell(text, base)
				return outcome{number: number, code: code}
			}})
		}
	}
	return list
}

func callsOfTwoCells() []call {
	var list []call
	for _, op := range append(someNumbers(), 3, 4, 5, 6, 7, 8, 9, 11) {
		for _, a := range someNumbers() {
			for _, b := range someNumbers() {
				list = append(list, call{fmt.Sprint("TwoCells ", op, a, b), func() outcome {
					number, ok, code := impl.TwoCells(op, a, b)
					return outcome{number: number, yes: ok, code: code}
				}})
			}
		}
	}
	return list
}

func someLines() []string {
	return append(someTexts(), " ", "(", ")", "\\", "a b", "A B", "dup ( a b) DROP", "dup ( a", "dup \\ ( a", "\xe2\x80 (\xff )", "twelve-bytes", "Twelve-Bytes", "thirteenbytes",
		strings.Repeat("x ", maxLine/2), strings.Repeat("( ", maxLine/2), strings.Repeat("x ", maxLine/2+1), strings.Repeat("( ", maxLine/2+1), strings.Repeat("(", impl.MaxText+1), strings.Repeat(" ", 4*impl.MaxText))
}

func callsOfLines() []call {
	var list []call
	for i, line := range someLines() {
		list = append(list,
			call{fmt.Sprint("LineWords ", i), func() outcome {
				words, code := impl.LineWords(line)
				return outcome{text: textOf(words), code: code}
			}},
			call{fmt.Sprint("UpperOf ", i), func() outcome { return outcome{text: impl.UpperOf(line)} }},
			call{fmt.Sprint("WordOK ", i), func() outcome { return outcome{yes: impl.WordOK(line)} }},
		)
		for k, other := range someLines() {
			list = append(list, call{fmt.Sprint("SameWord ", i, k), func() outcome { return outcome{yes: impl.SameWord(line, other)} }})
		}
	}
	return list
}

func callsOfData() []call {
	list := []call{{"NewData", func() outcome { return outcome{text: dataText(impl.NewData())} }}}
	for i, d := range append(validData(), badData()...) {
		list = append(list,
			call{fmt.Sprint("DataOK ", i), func() outcome { return outcome{yes: impl.DataOK(d)} }},
			call{fmt.Sprint("Pop ", i), func() outcome {
				next, top, throw, code := impl.Pop(d)
				return outcome{number: top, throw: throw, text: dataText(next), code: code}
			}},
		)
		for _, n := range append(someNumbers(), dataBase, dataBase+1, dataBase+4, dataBase+4*maxCells) {
			list = append(list, callsOfDataAndNumber(i, d, n)...)
		}
		for k, text := range someTexts() {
			list = append(list, call{fmt.Sprint("Say ", i, k), func() outcome {
				next, throw, code := impl.Say(d, text)
				return outcome{throw: throw, text: dataText(next), code: code}
			}})
		}
	}
	return list
}

func callsOfDataAndNumber(i int, d impl.Data, n int) []call {
	changes := []struct {
		name string
		run  func() (impl.Data, int, int)
	}{
		{"Push", func() (impl.Data, int, int) { return impl.Push(d, n) }},
		{"Store", func() (impl.Data, int, int) { return impl.Store(d, n, n) }},
		{"Store at the base", func() (impl.Data, int, int) { return impl.Store(d, dataBase, n) }},
		{"AllotCells", func() (impl.Data, int, int) { return impl.AllotCells(d, n) }},
	}
	list := []call{{fmt.Sprint("Fetch ", i, n), func() outcome {
		number, throw, code := impl.Fetch(d, n)
		return outcome{number: number, throw: throw, code: code}
	}}}
	for _, c := range changes {
		list = append(list, call{fmt.Sprint(c.name, i, n), func() outcome {
			next, throw, code := c.run()
			return outcome{throw: throw, text: dataText(next), code: code}
		}})
	}
	return list
}

func callsOfTwoData() []call {
	var list []call
	for i, a := range append(validData(), badData()...) {
		for k, b := range append(validData(), badData()...) {
			list = append(list, call{fmt.Sprint("SameData ", i, k), func() outcome { return outcome{yes: impl.SameData(a, b)} }})
		}
	}
	return list
}

func callsOfDicts() []call {
	list := []call{{"KernelWords", func() outcome { return outcome{text: wordsText(impl.KernelWords())} }}}
	for i, words := range slices.Concat(validDicts(), badDicts(), [][]impl.Word{dictOf(impl.MaxList), make([]impl.Word, impl.MaxList+1)}) {
		list = append(list,
			call{fmt.Sprint("DictOK ", i), func() outcome { return outcome{yes: impl.DictOK(words)} }},
			call{fmt.Sprint("KernelSame ", i), func() outcome { return outcome{yes: impl.KernelSame(words)} }},
		)
		for _, n := range append(someNumbers(), 56, 57, kernelSize, kernelSize+1, len(words), len(words)+1) {
			list = append(list, call{fmt.Sprint("TokenOK ", i, n), func() outcome { return outcome{yes: impl.TokenOK(words, n)} }})
		}
		for k, name := range append(someTexts(), "dup", "Dup", "(LIT)", "colon", "a b") {
			list = append(list, call{fmt.Sprint("FindWord ", i, k), func() outcome {
				number, code := impl.FindWord(words, name)
				return outcome{number: number, code: code}
			}})
		}
		for k, x := range append(scriptWords(), badScriptWords()...) {
			list = append(list, call{fmt.Sprint("AddWord ", i, k), func() outcome {
				more, number, code := impl.AddWord(words, x)
				return outcome{number: number, text: wordsText(more), code: code}
			}})
		}
	}
	return list
}

func callsOfPrims() []call {
	var list []call
	for _, prim := range append(notPrims(), 1, 5, 32, primCount) {
		list = append(list, call{fmt.Sprint("TakesOf ", prim), func() outcome {
			number, code := impl.TakesOf(prim)
			return outcome{number: number, code: code}
		}})
	}
	for i, d := range append(validData(), badData()...) {
		for _, prim := range append(notPrims(), primsOf(allPrims)...) {
			for _, floor := range []int{minInt, -1, 0, len(d.Back) - 1, len(d.Back), len(d.Back) + 1, maxInt} {
				list = append(list, call{fmt.Sprint("ApplyPrim ", i, prim, floor), func() outcome {
					next, throw, code := impl.ApplyPrim(d, prim, floor)
					return outcome{throw: throw, text: dataText(next), code: code}
				}})
			}
		}
		for k, prims := range [][]int{nil, notPrims(), primsOf(allPrims), primsOf("DROP DROP / CR UNLOOP R>"), {1, 53}, slices.Repeat([]int{12, 13}, impl.MaxList/2), make([]int, impl.MaxList+1)} {
			list = append(list, call{fmt.Sprint("ApplyAll ", i, k), func() outcome {
				next, done, throw, code := impl.ApplyAll(d, prims)
				return outcome{number: done, throw: throw, text: dataText(next), code: code}
			}})
		}
	}
	return list
}

func callsOfHosts() []call {
	list := []call{{"NewHost", func() outcome { return outcome{text: hostText(impl.NewHost())} }}}
	hosts := append(validHosts(), badHosts()...)
	data := append(badData()[:3], someHostData()...)
	for i, h := range hosts {
		list = append(list, call{fmt.Sprint("HostOK ", i), func() outcome { return outcome{yes: impl.HostOK(h)} }})
		for k, other := range hosts[:min(i+2, len(hosts))] {
			list = append(list, call{fmt.Sprint("SameHost ", i, k), func() outcome { return outcome{yes: impl.SameHost(h, other)} }})
		}
		for _, n := range someNumbers() {
			list = append(list, call{fmt.Sprint("AnswerHost ", i, n), func() outcome {
				next, code := impl.AnswerHost(h, n)
				if code == impl.ErrFull { // with this code alone there is a host
					return outcome{text: hostText(next)}
				}
				return outcome{text: hostText(next), code: code}
			}})
		}
		for _, c := range []int{minInt, -1, 0, 1, 2, 3, capCount, maxInt} {
			for _, yes := range []bool{false, true} {
				list = append(list, call{fmt.Sprint("GrantCap ", i, c, yes), func() outcome {
					next, code := impl.GrantCap(h, c, yes)
					return outcome{text: hostText(next), code: code}
				}})
			}
			for k, d := range data {
				list = append(list, call{fmt.Sprint("HostCall ", i, k, c), func() outcome {
					next, left, throw, code := impl.HostCall(h, d, c)
					return outcome{throw: throw, text: hostText(next) + dataText(left), code: code}
				}})
			}
		}
	}
	return list
}

func callsOfFolds() []call {
	var list []call
	for i, store := range append(badStores(), filled(storeSize), make([]int, storeSize), make([]int, impl.MaxList+1)) {
		for k, deeds := range [][]impl.Deed{nil, manyDeeds(20), badDeeds(), someDeeds(maxDeeds), manyDeeds(impl.MaxList), manyDeeds(impl.MaxList + 1)} {
			list = append(list, call{fmt.Sprint("FoldDeeds ", i, k), func() outcome {
				folded, code := impl.FoldDeeds(store, deeds)
				return outcome{text: cellsText(folded), code: code}
			}})
		}
	}
	return list
}

func someItemLists() [][]impl.Item {
	list := [][]impl.Item{nil, {}, slices.Repeat(itemsOf("5"), maxItems), slices.Repeat(itemsOf("THEN"), maxItems+1), make([]impl.Item, maxItems), make([]impl.Item, impl.MaxList), make([]impl.Item, impl.MaxList+1)}
	for kind := range 15 {
		list = append(list, []impl.Item{{Kind: kind}}, []impl.Item{{Kind: kind, Value: 1}}, slices.Repeat([]impl.Item{{Kind: kind}}, maxItems))
	}
	for _, text := range []string{"THEN IF", "IF w1 ELSE 5 THEN", "BEGIN WHILE DO LOOP REPEAT RECURSE", "IF IF IF IF IF IF IF IF THEN", "BEGIN UNTIL LOOP 5"} {
		list = append(list, itemsOf(text), append(itemsOf(text), impl.Item{Kind: maxInt, Value: minInt}))
	}
	return list
}

func callsOfItems() []call {
	var list []call
	for i, x := range append(badItems(), itemsOf("w1 5 IF RECURSE")...) {
		list = append(list, call{fmt.Sprint("ItemOK ", i), func() outcome { return outcome{yes: impl.ItemOK(x)} }})
	}
	for i, items := range someItemLists() {
		list = append(list,
			call{fmt.Sprint("CheckItems ", i), func() outcome {
				at, code := impl.CheckItems(items)
				if code == impl.ErrControl { // with this code alone there is an index
					return outcome{number: at}
				}
				return outcome{number: at, code: code}
			}},
			call{fmt.Sprint("SizeOf ", i), func() outcome {
				size, code := impl.SizeOf(items)
				return outcome{number: size, code: code}
			}},
		)
		for _, place := range append(someNumbers(), len(items)-1, len(items), len(items)+1) {
			list = append(list, call{fmt.Sprint("OpenAt ", i, place), func() outcome {
				open, code := impl.OpenAt(items, place)
				return outcome{text: cellsText(open), code: code}
			}})
		}
	}
	return list
}

func callsOfCompilations() []call {
	var list []call
	for i, items := range someItemLists() {
		for _, at := range append(someNumbers(), maxCode-2, maxCode-1, maxCode, maxCode+1) {
			for _, self := range []int{minInt, -1, 0, 1, wordNumbers, wordNumbers + 1, maxInt} {
				list = append(list, call{fmt.Sprint("CompileItems ", i, at, self), func() outcome {
					cells, code := impl.CompileItems(items, at, self)
					return outcome{text: cellsText(cells), code: code}
				}})
			}
		}
	}
	return list
}

func callsOfCode() []call {
	var list []call
	codes := [][]int{nil, {53}, {57}, {57, minInt, 53}, {1, 84, 53}, {minInt}, {maxInt}, someNumbers(), append(slices.Repeat([]int{60}, impl.MaxList-1), 53), make([]int, impl.MaxList+1)}
	for number := range 63 {
		codes = append(codes, []int{number}, []int{number, number, 53}, []int{number, 5, 53})
	}
	for i, words := range [][]impl.Word{nil, kernelWords(), dictOf(2), dictOf(maxUser), dictOf(maxUser + 1), kernelWords()[1:], make([]impl.Word, impl.MaxList+1)} {
		for k, code := range codes {
			for _, at := range []int{minInt, -1, 0, 1, len(code) - 1, len(code), len(code) + 1, maxInt} {
				list = append(list, call{fmt.Sprint("CodeLines ", i, k, at), func() outcome {
					lines, problem := impl.CodeLines(words, code, at)
					return outcome{text: textOf(lines), code: problem}
				}})
			}
		}
	}
	return list
}

func callsOfMachines() []call {
	list := []call{{"NewMachine", func() outcome { return outcome{text: machineText(impl.NewMachine())} }}}
	machines := slices.Concat(validMachines(), badMachines(), memoryMachines())
	for i, m := range machines {
		list = append(list,
			call{fmt.Sprint("MachineOK ", i), func() outcome { return outcome{yes: impl.MachineOK(m)} }},
			call{fmt.Sprint("StepMachine ", i), func() outcome {
				next, throw, code := impl.StepMachine(m)
				return outcome{throw: throw, text: machineText(next), code: code}
			}},
		)
		for k, other := range machines[:min(i+2, 9)] {
			list = append(list, call{fmt.Sprint("SameMachine ", i, k), func() outcome { return outcome{yes: impl.SameMachine(m, other)} }})
		}
		for _, token := range []int{minInt, -1, 0, 1, 53, 54, 55, 56, 57, 66, 67, 84, 86, len(m.Words), len(m.Words) + 1, maxInt} {
			list = append(list,
				call{fmt.Sprint("BeginToken ", i, token), func() outcome {
					next, throw, code := impl.BeginToken(m, token)
					return outcome{throw: throw, text: machineText(next), code: code}
				}},
				call{fmt.Sprint("RunToken ", i, token), func() outcome {
					next, throw, steps, code := impl.RunToken(m, token)
					return outcome{number: steps, throw: throw, text: machineText(next), code: code}
				}},
			)
		}
	}
	return list
}

// hostText is empty for a zero host.
func hostText(h impl.Host) string {
	if isZeroHost(h) {
		return ""
	}
	return fmt.Sprintf("%v %v %v %d %v", h.Granted, h.Store, h.Answers, h.Clock, h.Deeds)
}

// cellsText makes no difference between an empty list and nil.
func cellsText(list []int) string {
	if len(list) == 0 {
		return ""
	}
	return fmt.Sprint(list)
}

// dataText is empty for zero data.
func dataText(d impl.Data) string {
	if isZeroData(d) {
		return ""
	}
	return fmt.Sprintf("%v %v %v %d %d %q", d.Stack, d.Back, d.Cells, d.Here, d.Base, d.Out)
}

// textOf makes no difference between an empty list and nil.
func textOf(list []string) string {
	if len(list) == 0 {
		return ""
	}
	return fmt.Sprintf("%q", list)
}

// wordsText makes no difference between an empty list and nil.
func wordsText(list []impl.Word) string {
	if len(list) == 0 {
		return ""
	}
	return fmt.Sprintf("%+v", list)
}

func TestNoCallPanics(t *testing.T) {
	for _, c := range allCalls() {
		if o := c.outcome(); o.problem != "" {
			t.Errorf("%s panics: %s", c.name, o.problem)
		}
	}
}

func TestZeroValuesBesideCodes(t *testing.T) {
	for _, c := range allCalls() {
		if o := c.outcome(); o.code != impl.OK && (o.number != 0 || o.throw != 0 || o.text != "" || o.yes) {
			t.Errorf("%s has results beside the code %d", c.name, o.code)
		}
	}
}

func TestEqualArgumentsYieldEqualResults(t *testing.T) {
	list := allCalls()
	first := make([]outcome, len(list))
	for i, c := range list {
		first[i] = c.outcome()
	}
	for i, c := range slices.Backward(list) {
		if o := c.outcome(); o != first[i] {
			t.Errorf("%s depends on earlier calls: %v, then %v", c.name, first[i], o)
		}
	}
}
