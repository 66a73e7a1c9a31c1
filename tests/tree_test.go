package tests

// Promise 8, the tree: properly nested items are recovered from their tree, and
// only the trees of such items are accepted. The items of a tree are worked out
// here from its source text.

import (
	"fmt"
	"slices"
	"strings"
	"testing"

	"loop.example/g00787/impl"
)

// nodesOf reads a tree: 5, w17 and RECURSE are items, UNTIL(..), WHILE(..|..),
// LOOP(..) and +LOOP(..) are loops, and IF(..|..) is a conditional, without the
// bar one without ItElse.
func nodesOf(text string) []impl.Node {
	text = strings.NewReplacer("(", " ( ", "|", " | ", ")", " ) ").Replace(text)
	tree, _ := nodesAhead(strings.Fields(text))
	return tree
}

// nodesAhead returns what is left, from the bar or bracket on that ends the
// nodes.
func nodesAhead(parts []string) ([]impl.Node, []string) {
	var tree []impl.Node
	for len(parts) > 0 && parts[0] != "|" && parts[0] != ")" {
		x := itemsOf(parts[0])[0]
		node := impl.Node{Kind: x.Kind, Value: x.Value}
		parts = parts[1:]
		if len(parts) > 0 && parts[0] == "(" {
			node.A, parts = nodesAhead(parts[1:])
			if parts[0] == "|" {
				node.B, parts = nodesAhead(parts[1:])
				node.Value = map[int]int{impl.ItIf: 1}[node.Kind]
			}
			parts = parts[1:]
		}
		tree = append(tree, node)
	}
	return tree, parts
}

// sourceOf expects a tree.
func sourceOf(tree []impl.Node) string {
	var text string
	for _, x := range tree {
		a, b := sourceOf(x.A), sourceOf(x.B)
		switch x.Kind {
		case 1:
			text += fmt.Sprintf("w%d ", x.Value)
		case 2:
			text += fmt.Sprintf("%d ", x.Value)
		case 3:
			text += "IF " + a + strings.Repeat("ELSE ", x.Value) + b + "THEN "
		case 7:
			text += "BEGIN " + a + "UNTIL "
		case 8:
			text += "BEGIN " + a + "WHILE " + b + "REPEAT "
		case 11, 12:
			text += "DO " + a + itemNames()[x.Kind-1] + " "
		case 13:
			text += "RECURSE "
		}
	}
	return text
}

// isTree does not look at sizes and levels.
func isTree(tree []impl.Node) bool {
	for _, x := range tree {
		leaf := x.Kind == 1 || x.Kind == 2 || x.Kind == 13
		switch {
		case !slices.Contains([]int{1, 2, 3, 7, 8, 11, 12, 13}, x.Kind),
			leaf && (len(x.A) > 0 || !impl.ItemOK(impl.Item{Kind: x.Kind, Value: x.Value})),
			!leaf && (x.Value < 0 || x.Value > 1 || x.Value == 1 && x.Kind != 3),
			len(x.B) > 0 && x.Kind != 8 && (x.Kind != 3 || x.Value == 0),
			!isTree(x.A), !isTree(x.B):
			return false
		}
	}
	return true
}

// equalTrees does not rely on SameTree.
func equalTrees(a, b []impl.Node) bool {
	return slices.EqualFunc(a, b, func(x, y impl.Node) bool {
		return x.Kind == y.Kind && x.Value == y.Value && equalTrees(x.A, y.A) && equalTrees(x.B, y.B)
	})
}

func clonedTree(tree []impl.Node) []impl.Node {
	tree = slices.Clone(tree)
	for i, x := range tree {
		tree[i].A, tree[i].B = clonedTree(x.A), clonedTree(x.B)
	}
	return tree
}

// wantTree expects a properly nested list.
func wantTree(t *testing.T, list []impl.Item) []impl.Node {
	t.Helper()
	tree, code := impl.TreeOf(list)
	if code != impl.OK || !isTree(tree) || !slices.Equal(itemsOf(sourceOf(tree)), list) {
		t.Fatalf("TreeOf(%v) = %v, %d", list, tree, code)
	}
	if back, code := impl.ItemsOf(tree); code != impl.OK || !slices.Equal(back, list) {
		t.Errorf("ItemsOf(%v) = %v, %d, not %v", tree, back, code, list)
	}
	if !impl.SameTree(tree, clonedTree(tree)) {
		t.Errorf("%v is not the same as its copy", tree)
	}
	return tree
}

func wantNoTree(t *testing.T, list []impl.Item, wantCode int) {
	t.Helper()
	if tree, code := impl.TreeOf(list); code != wantCode || len(tree) > 0 {
		t.Errorf("TreeOf(%v) = %v, %d, not %d", list, tree, code, wantCode)
	}
}

func wantNoItems(t *testing.T, what string, tree []impl.Node, wantCode int) {
	t.Helper()
	if list, code := impl.ItemsOf(tree); code != wantCode || len(list) > 0 {
		t.Errorf("%s: ItemsOf = %v, %d, not %d", what, list, code, wantCode)
	}
	if impl.SameTree(tree, tree) || impl.SameTree(tree, nil) || impl.SameTree(nil, tree) {
		t.Errorf("%s is the same as something", what)
	}
}

// wantItems also makes the tree again of its items.
func wantItems(t *testing.T, what string, tree []impl.Node) {
	t.Helper()
	list := itemsOf(sourceOf(tree))
	if got, code := impl.ItemsOf(tree); code != impl.OK || !slices.Equal(got, list) {
		t.Errorf("%s: ItemsOf = %v, %d, not %v", what, got, code, list)
	}
	if got, code := impl.TreeOf(list); code != impl.OK || !equalTrees(got, tree) {
		t.Errorf("%s: TreeOf(%v) = %v, %d", what, list, got, code)
	}
	if !impl.SameTree(tree, clonedTree(tree)) {
		t.Errorf("%s is not the same as its copy", what)
	}
}

func TestTreeOfEachStructure(t *testing.T) {
	for _, v := range [][2]string{
		{"", ""}, {"w1", "w1"}, {"w103", "w103"}, {"5", "5"}, {"-2147483648", "-2147483648"}, {"2147483647", "2147483647"}, {"RECURSE", "RECURSE"},
		{"w1 5 RECURSE 5 w1", "w1 5 RECURSE 5 w1"},
		{"IF THEN", "IF()"}, {"IF ELSE THEN", "IF(|)"}, {"BEGIN UNTIL", "UNTIL()"}, {"BEGIN WHILE REPEAT", "WHILE(|)"}, {"DO LOOP", "LOOP()"}, {"DO +LOOP", "+LOOP()"},
		{"IF w1 THEN", "IF(w1)"}, {"IF w1 ELSE THEN", "IF(w1|)"}, {"IF ELSE w2 THEN", "IF(|w2)"}, {"IF w1 ELSE w2 THEN", "IF(w1|w2)"},
		{"BEGIN w1 UNTIL", "UNTIL(w1)"}, {"BEGIN w1 WHILE REPEAT", "WHILE(w1|)"}, {"BEGIN WHILE w2 REPEAT", "WHILE(|w2)"}, {"BEGIN w1 WHILE w2 REPEAT", "WHILE(w1|w2)"},
		{"DO w1 LOOP", "LOOP(w1)"}, {"DO w1 +LOOP", "+LOOP(w1)"},
		{"5 IF w1 w2 ELSE 6 7 THEN 8", "5 IF(w1 w2|6 7) 8"}, {"5 BEGIN 6 w1 UNTIL 7", "5 UNTIL(6 w1) 7"}, {"5 BEGIN 6 w1 WHILE 7 RECURSE REPEAT 8", "5 WHILE(6 w1|7 RECURSE) 8"}, {"9 0 DO w51 RECURSE LOOP w1", "9 0 LOOP(w51 RECURSE) w1"},
		{"IF THEN IF ELSE THEN IF THEN", "IF() IF(|) IF()"}, {"BEGIN UNTIL BEGIN WHILE REPEAT BEGIN UNTIL", "UNTIL() WHILE(|) UNTIL()"}, {"DO LOOP DO +LOOP DO LOOP", "LOOP() +LOOP() LOOP()"}, {"IF THEN DO LOOP BEGIN UNTIL", "IF() LOOP() UNTIL()"},
		{"IF IF THEN THEN", "IF(IF())"}, {"IF IF ELSE THEN ELSE IF THEN THEN", "IF(IF(|)|IF())"}, {"IF ELSE IF ELSE THEN THEN", "IF(|IF(|))"},
		{"BEGIN BEGIN UNTIL UNTIL", "UNTIL(UNTIL())"}, {"BEGIN BEGIN WHILE REPEAT WHILE BEGIN UNTIL REPEAT", "WHILE(WHILE(|)|UNTIL())"}, {"DO DO LOOP +LOOP", "+LOOP(LOOP())"}, {"DO DO +LOOP LOOP", "LOOP(+LOOP())"},
		{"IF DO LOOP ELSE BEGIN UNTIL THEN", "IF(LOOP()|UNTIL())"}, {"BEGIN IF THEN WHILE DO +LOOP REPEAT", "WHILE(IF()|+LOOP())"}, {"DO IF RECURSE ELSE BEGIN WHILE REPEAT THEN LOOP", "LOOP(IF(RECURSE|WHILE(|)))"},
		{"BEGIN IF 1 THEN IF 2 ELSE 3 THEN UNTIL", "UNTIL(IF(1) IF(2|3))"}, {"IF 1 IF 2 THEN 3 ELSE 4 DO 5 LOOP 6 THEN 7", "IF(1 IF(2) 3|4 LOOP(5) 6) 7"},
	} {
		if got := wantTree(t, itemsOf(v[0])); !equalTrees(got, nodesOf(v[1])) {
			t.Errorf("the tree of %s is %v, not %s", v[0], got, v[1])
		}
		wantItems(t, v[1], nodesOf(v[1]))
	}
}

func TestTreeOfEachItem(t *testing.T) {
	for kind, values := range map[int][]int{1: {1, 2, 53, 57, 62, 67, kernelSize, 84, wordNumbers}, 2: cells(), 13: {0}} {
		for _, value := range values {
			for _, before := range []string{"", "5", "w1 IF THEN", "DO LOOP RECURSE"} {
				list := append(itemsOf(before), impl.Item{Kind: kind, Value: value})
				want := append(wantTree(t, itemsOf(before)), impl.Node{Kind: kind, Value: value})
				if got := wantTree(t, list); !equalTrees(got, want) {
					t.Errorf("the tree of %v is %v", list, got)
				}
			}
		}
	}
}

func TestTreeOfEveryShortList(t *testing.T) {
	trees := 0
	everyList(nil, []int{1, 3, 4, 5, 6, 7, 8, 9, 10, 11, 12}, 6, func(list []impl.Item) {
		if open, fits := leftOpen(list); !fits || len(open) > 0 {
			wantNoTree(t, list, impl.ErrControl)
			return
		}
		trees++
		wantTree(t, list)
	})
	if trees < 1500 {
		t.Errorf("%d trees", trees)
	}
}

func TestTreesOfLongLists(t *testing.T) {
	p := &picker{state: 9}
	for size := range maxItems + 1 {
		for range 30 {
			list := pickList(p, size)
			wantTree(t, list)
			for range min(size, 3) {
				other := slices.Clone(list)
				other[p.below(size)] = pickItem(p)
				if open, _ := leftOpen(other[:fittingItems(other)]); fittingItems(other) < size || len(open) > 0 {
					wantNoTree(t, other, impl.ErrControl)
				} else {
					wantTree(t, other)
				}
			}
		}
	}
}

func TestItemsWithoutTree(t *testing.T) {
	for _, text := range []string{
		"THEN", "w1 THEN", "IF", "IF ELSE", "BEGIN", "BEGIN WHILE", "DO", "5 IF 6", "IF THEN THEN", "IF ELSE ELSE THEN", "BEGIN WHILE WHILE REPEAT", "BEGIN REPEAT", "BEGIN WHILE UNTIL",
		"DO ELSE LOOP", "IF WHILE THEN", "BEGIN IF UNTIL THEN", "IF DO THEN LOOP", "DO LOOP LOOP", "DO LOOP +LOOP", "THEN IF", "LOOP", "UNTIL", "WHILE", "REPEAT", "ELSE", "+LOOP",
	} {
		wantNoTree(t, itemsOf(text), impl.ErrControl)
		wantNoTree(t, append(itemsOf("5 DO LOOP"), itemsOf(text)...), impl.ErrControl)
		wantNoTree(t, append(itemsOf(text), impl.Item{}), impl.ErrBad)
		wantNoTree(t, append(itemsOf(text), make([]impl.Item, maxItems)...), impl.ErrMany)
		wantNoTree(t, append(itemsOf(text), make([]impl.Item, impl.MaxList)...), impl.ErrLong)
	}
	for wantCode, lists := range badItemLists() {
		for _, list := range lists {
			wantNoTree(t, list, wantCode)
		}
	}
}

// structuresAround has the tree within each kind of structure, as each of its
// branches.
func structuresAround(tree []impl.Node) []impl.Node {
	five := nodesOf("5")
	return []impl.Node{
		{Kind: impl.ItIf, A: tree}, {Kind: impl.ItIf, Value: 1, A: tree}, {Kind: impl.ItIf, Value: 1, B: tree}, {Kind: impl.ItIf, Value: 1, A: five, B: tree},
		{Kind: impl.ItUntil, A: tree}, {Kind: impl.ItWhile, A: tree}, {Kind: impl.ItWhile, B: tree}, {Kind: impl.ItWhile, A: five, B: tree},
		{Kind: impl.ItLoop, A: tree}, {Kind: impl.ItPlus, A: tree},
	}
}

// nested has the tree within so many structures of the kind with this place
// among structuresAround.
func nested(tree []impl.Node, depth, place int) []impl.Node {
	for range depth {
		tree = []impl.Node{structuresAround(tree)[place]}
	}
	return tree
}

// badNodes are no nodes of a tree.
func badNodes() []impl.Node {
	five := nodesOf("5")
	var list []impl.Node
	for _, kind := range []int{minInt, minCell, -7, -1, 0, 4, 5, 6, 9, 10, 14, 15, 1 << 32, 1<<32 + 2, 1<<32 + 3, maxInt} {
		list = append(list, impl.Node{Kind: kind}, impl.Node{Kind: kind, Value: 1}, impl.Node{Kind: kind, A: five}, impl.Node{Kind: kind, B: five})
	}
	for _, value := range []int{minInt, minCell, -1, 0, wordNumbers + 1, wordNumbers + 2, 1 << 32, 1<<32 + 1, maxInt} {
		list = append(list, impl.Node{Kind: impl.ItWord, Value: value})
	}
	for _, value := range notCells() {
		list = append(list, impl.Node{Kind: impl.ItLit, Value: value})
	}
	for _, kind := range []int{impl.ItUntil, impl.ItWhile, impl.ItLoop, impl.ItPlus, impl.ItSelf} {
		for _, value := range []int{minInt, minCell, -1, 1, 2, 84, 1 << 32, maxInt} {
			list = append(list, impl.Node{Kind: kind, Value: value})
		}
	}
	for _, value := range []int{minInt, minCell, -2, -1, 2, 3, 1 << 32, 1<<32 + 1, maxInt} {
		list = append(list, impl.Node{Kind: impl.ItIf, Value: value}, impl.Node{Kind: impl.ItIf, Value: value, A: five}, impl.Node{Kind: impl.ItIf, Value: value, B: five})
	}
	list = append(list, impl.Node{Kind: impl.ItIf, B: five}, impl.Node{Kind: impl.ItIf, A: five, B: nodesOf("IF()")})
	for _, text := range []string{"w1", "5", "RECURSE"} {
		x := nodesOf(text)[0]
		list = append(list, impl.Node{Kind: x.Kind, Value: x.Value, A: five}, impl.Node{Kind: x.Kind, Value: x.Value, B: five}, impl.Node{Kind: x.Kind, Value: x.Value, A: five, B: five})
	}
	for _, kind := range []int{impl.ItUntil, impl.ItLoop, impl.ItPlus} {
		list = append(list, impl.Node{Kind: kind, B: five}, impl.Node{Kind: kind, A: five, B: five})
	}
	return list
}

// TestNodesThatAreNone has them at the top and within every structure.
func TestNodesThatAreNone(t *testing.T) {
	for i, x := range badNodes() {
		what := fmt.Sprint("bad node ", i)
		for _, tree := range [][]impl.Node{{x}, append(nodesOf("5 IF()"), x), append([]impl.Node{x}, nodesOf("w1")...)} {
			wantNoItems(t, what, tree, impl.ErrBad)
			for place := range structuresAround(nil) {
				for _, depth := range []int{1, 2, maxDepth} {
					wantNoItems(t, fmt.Sprint(what, " in ", depth, " structures ", place), nested(tree, depth, place), impl.ErrBad)
				}
			}
		}
	}
}

func TestValuesOfConditionals(t *testing.T) {
	five, none := nodesOf("5"), []impl.Node{}
	for _, x := range []impl.Node{{}, {A: five}, {A: five, B: none}, {Value: 1}, {Value: 1, A: five}, {Value: 1, B: five}, {Value: 1, A: five, B: five}, {Value: 1, A: none, B: none}} {
		x.Kind = impl.ItIf
		wantItems(t, fmt.Sprint(x), []impl.Node{x})
	}
	if impl.SameTree(nodesOf("IF()"), nodesOf("IF(|)")) {
		t.Error("an ItElse with empty branches makes no difference")
	}
}
