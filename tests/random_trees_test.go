package tests

// Promise 9 for definitions that nobody has chosen: what they do by their tree
// is what they do by their code.

import (
	"fmt"
	"strings"
	"testing"

	"loop.example/g00787/impl"
)

// pickWordOf picks the number of a token among so many words.
func pickWordOf(p *picker, words int) int {
	return []int{1 + p.below(primCount), 53 + p.below(4), 63 + p.below(4), kernelSize + 1 + p.below(words-kernelSize), kernelSize + 1 + p.below(words-kernelSize)}[p.below(5)]
}

func pickSource(p *picker, words, depth int) string {
	var parts []string
	for range 1 + p.below(4) {
		parts = append(parts, pickPhrase(p, words, depth))
	}
	return strings.Join(parts, " ")
}

// pickPhrase has mostly words and structures with what they need, so that runs
// do not end at once.
func pickPhrase(p *picker, words, depth int) string {
	inside := func() string {
		if depth == 0 {
			return ""
		}
		return pickSource(p, words, depth-1)
	}
	token := pickWordOf(p, words)
	switch p.below(18) {
	case 0, 1:
		return fmt.Sprint(token, " CATCH ", []string{"", "DROP"}[p.below(2)])
	case 2:
		return fmt.Sprint(token, " 55 CATCH")
	case 3:
		return fmt.Sprint(token, " EXECUTE")
	case 4, 5:
		return fmt.Sprint(p.below(6), " ", p.below(6)-2, " DO ", inside(), " LOOP")
	case 6, 7:
		return fmt.Sprint(p.below(6), " ", p.below(6)-2, " DO ", inside(), " ", p.below(7)-3, " +LOOP")
	case 8:
		return fmt.Sprint(p.below(2), " IF ", inside(), " THEN")
	case 9:
		return fmt.Sprint(p.below(2), " IF ", inside(), " ELSE ", inside(), " THEN")
	case 10:
		return fmt.Sprint("BEGIN ", inside(), " ", p.below(3), " UNTIL")
	case 11:
		return fmt.Sprint("0 ", p.below(2), " BEGIN ", inside(), " WHILE ", inside(), " REPEAT")
	case 12:
		return fmt.Sprint(p.below(9), " >R ", inside(), " R>")
	case 13:
		return []string{"RECURSE", "EXIT", "UNLOOP EXIT", "UNLOOP", "7 THROW", "0 THROW", "I"}[p.below(7)]
	case 14:
		return fmt.Sprint(pickCell(p), " ", dataBase+4*p.below(5), " !")
	case 15:
		return strings.Replace([]string{"IF * THEN", "DO * LOOP", "DO * +LOOP", "BEGIN * UNTIL", "BEGIN WHILE * REPEAT"}[p.below(5)], "*", inside(), 1)
	}
	return fmt.Sprint(pickCell(p), " w", token)
}

// pickScript has a machine with up to eight definitions, and a variable and a
// constant before them.
func pickScript(p *picker, pickItems func(words int) []impl.Item) (impl.Machine, []impl.Def) {
	m := pickMachine(p)
	m.Words = append(kernelWords(), impl.Word{Name: "v", Kind: impl.WdVar, Value: dataBase + 4}, impl.Word{Name: "c", Kind: impl.WdConst, Value: pickCell(p)})
	m.Code = make([]int, p.below(20))
	count := 1 + p.below(8)
	words := len(m.Words) + count
	var defs []impl.Def
	for len(defs) < count {
		items := pickItems(words)
		if len(items) > maxItems || len(m.Code)+len(blockCodeOf(items))+count > maxCode {
			items = nil
		}
		defs = append(defs, defined(&m, items))
	}
	return m, defs
}

// checkTrees runs random words of random scripts, and returns how often each
// throw was uncaught.
func checkTrees(t *testing.T, count int, p *picker, pickItems func(words int) []impl.Item) map[int]int {
	t.Helper()
	throws, longest := map[int]int{}, 0
	for i := range count {
		m, defs := pickScript(p, pickItems)
		if !impl.DefsOK(m, defs) {
			t.Fatalf("the definitions of random script %d are refused", i)
		}
		for range 3 {
			got, throw := checkTree(t, fmt.Sprint("random script ", i), m, defs, pickToken(p, m.Words))
			throws[throw]++
			longest = max(longest, m.Fuel-got.Fuel)
			m.Fuel = p.below(60)
		}
		if t.Failed() {
			return throws
		}
	}
	if longest < 100 {
		t.Errorf("no run takes more than %d", longest)
	}
	return throws
}

func TestTreesOfRandomScripts(t *testing.T) {
	p := &picker{state: 3}
	throws := checkTrees(t, 5000, p, func(words int) []impl.Item { return sourceItems(pickSource(p, words, 2)) })
	for _, throw := range []int{0, 7, -3, -4, -5, -6, -8, -9, -10, -14, -17, -24, -25, -50, -100, -101} {
		if throws[throw] == 0 {
			t.Errorf("no run throws %d: %v", throw, throws)
		}
	}
}

// TestTreesOfAnyItems has items that are not made to be run.
func TestTreesOfAnyItems(t *testing.T) {
	p := &picker{state: 6}
	checkTrees(t, 1500, p, func(words int) []impl.Item {
		items := pickList(p, p.below(maxItems/2))
		for i, x := range items {
			if x.Kind == impl.ItWord {
				items[i].Value = pickWordOf(p, words)
			}
		}
		return items
	})
}
