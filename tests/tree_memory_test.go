package tests

// Promise 1 for the trees: no function changes its argument, not even the
// unused capacity of its slices, and no slice of a result shares memory with
// an argument or with another slice of the result.

import (
	"fmt"
	"slices"
	"testing"

	"loop.example/g00787/impl"
)

func unusedNodes(size int) []impl.Node {
	return slices.Repeat([]impl.Node{{Kind: unused, Value: unused, A: nodesOf("5")}}, size)
}

// treeWithRoom has unused capacity in every list of the tree.
func treeWithRoom(tree []impl.Node) []impl.Node {
	memory := append(slices.Clone(tree), unusedNodes(5)...)
	for i, x := range tree {
		memory[i].A, memory[i].B = treeWithRoom(x.A), treeWithRoom(x.B)
	}
	return memory[:len(tree)]
}

// nodeLists has every list of a tree with all of its memory.
func nodeLists(tree []impl.Node) [][]impl.Node {
	lists := [][]impl.Node{tree[:cap(tree)]}
	for _, x := range tree {
		lists = slices.Concat(lists, nodeLists(x.A), nodeLists(x.B))
	}
	return lists
}

func clonedNodeLists(lists [][]impl.Node) [][]impl.Node {
	var list [][]impl.Node
	for _, x := range lists {
		list = append(list, clonedTree(x))
	}
	return list
}

// memoryTrees are accepted, but for the last ones.
func memoryTrees() [][]impl.Node {
	trees := [][]impl.Node{nil, nested(nodesOf("5"), maxDepth, 0), nested(nodesOf("w1 RECURSE"), maxDepth, 7), nested(nil, maxDepth+1, 2), fives(maxItems)}
	for _, text := range []string{"w1", "5 RECURSE", "IF()", "IF(|)", "IF(1 2|3 4) 5", "UNTIL(w1) WHILE(|)", "WHILE(1 IF(2|)|3) LOOP(4) +LOOP(5)", "LOOP(+LOOP(IF(IF(w1))))"} {
		trees = append(trees, nodesOf(text))
	}
	for _, x := range badNodes()[:9] {
		trees = append(trees, append(nodesOf("5 IF(6)"), x))
	}
	return append(trees, nested(nodesOf("5"), maxDepth+1, 4), fives(maxItems+1), make([]impl.Node, impl.MaxList+1))
}

func TestTreeArgumentsAreUnchanged(t *testing.T) {
	for i, tree := range memoryTrees() {
		own := treeWithRoom(tree)
		before := clonedNodeLists(nodeLists(own))
		impl.ItemsOf(own)
		impl.SameTree(own, own)
		impl.SameTree(own, nodesOf("5 IF(6|7)"))
		impl.SameTree(nodesOf("5 IF(6|7)"), own)
		if !slices.EqualFunc(nodeLists(own), before, equalTrees) {
			t.Errorf("tree %d is changed", i)
		}
	}
	for i, list := range memoryLists() {
		own, memory := itemsWithRoom(list)
		before := slices.Clone(memory)
		impl.TreeOf(own)
		if !slices.Equal(memory, before) {
			t.Errorf("list %d is changed", i)
		}
	}
}

func TestItemsOfTreesAreNewMemory(t *testing.T) {
	for i, tree := range memoryTrees() {
		own := treeWithRoom(tree)
		want, _ := impl.ItemsOf(tree)
		first, _ := impl.ItemsOf(own)
		second, _ := impl.ItemsOf(own)
		for _, list := range nodeLists(own) {
			copy(list, unusedNodes(len(list)))
		}
		if !slices.Equal(first, want) {
			t.Errorf("the items of tree %d share memory with it", i)
		}
		spoilItems(first)
		if !slices.Equal(second, want) {
			t.Errorf("two results of tree %d share memory", i)
		}
	}
}

// TestListsOfTreesAreApart spoils all lists of a tree, one after the other.
func TestListsOfTreesAreApart(t *testing.T) {
	for i, list := range memoryLists() {
		want, _ := impl.TreeOf(list)
		want = clonedTree(want)
		own, memory := itemsWithRoom(list)
		first, _ := impl.TreeOf(own)
		second, _ := impl.TreeOf(own)
		spoilItems(memory)
		if !equalTrees(first, want) {
			t.Errorf("the tree of list %d shares memory with it", i)
		}
		lists := nodeLists(first)
		for k, spoiled := range lists {
			others := slices.Delete(slices.Clone(lists), k, k+1)
			before := leavesOf(others)
			copy(spoiled, unusedNodes(len(spoiled)))
			if !slices.EqualFunc(leavesOf(others), before, slices.Equal) {
				t.Errorf("two lists of the tree of list %d share memory", i)
			}
		}
		if !equalTrees(second, want) {
			t.Errorf("two trees of list %d share memory", i)
		}
	}
}

// leavesOf leaves out what is inside the nodes.
func leavesOf(lists [][]impl.Node) [][]impl.Item {
	var list [][]impl.Item
	for _, nodes := range lists {
		var own []impl.Item
		for _, x := range nodes {
			own = append(own, impl.Item{Kind: x.Kind, Value: x.Value})
		}
		list = append(list, own)
	}
	return list
}

// memoryScripts change each part of their machines in one run or another.
func memoryScripts() ([]impl.Machine, [][]impl.Def) {
	var machines []impl.Machine
	var lists [][]impl.Def
	for _, stacks := range []string{"", "5|6 7", "5 w86", "5 w87|6", "5 DUP CATCH|6", "9 0 THROW", ofCells(31) + " w84|" + ofCells(32)} {
		m, defs := scriptOf(stacks,
			"5 >R 87 CATCH R> DROP",
			"HTIME DROP 7 2 HWRITE 8 ALLOT 9 , w88",
			"65 EMIT HEX 3 0 DO I LOOP 46 THROW",
			"RECURSE",
			"")
		machines, lists = append(machines, m), append(lists, defs)
	}
	return machines, lists
}

func defsWithRoom(defs []impl.Def) []impl.Def {
	memory := append(slices.Clone(defs), slices.Repeat([]impl.Def{{Word: unused, Items: itemsOf("5")}}, 5)...)
	for i, x := range defs {
		memory[i].Items, _ = itemsWithRoom(x.Items)
	}
	return memory[:len(defs)]
}

// defsMemory copies all the memory of definitions, also unused capacity.
func defsMemory(defs []impl.Def) []impl.Def {
	defs = slices.Clone(defs[:cap(defs)])
	for i, x := range defs {
		defs[i].Items = slices.Clone(x.Items[:cap(x.Items)])
	}
	return defs
}

// treeResults calls RunTree with every token and with some numbers that are
// none.
func treeResults(m impl.Machine, defs []impl.Def) map[string]impl.Machine {
	results := map[string]impl.Machine{}
	for token := range len(m.Words) + 2 {
		results[fmt.Sprint("RunTree ", token)], _, _ = impl.RunTree(m, defs, token)
	}
	return results
}

func TestScriptArgumentsAreUnchanged(t *testing.T) {
	machines, lists := memoryScripts()
	for i, m := range machines {
		for _, defs := range [][]impl.Def{lists[i], lists[i][1:], nil} {
			own, ownDefs := machineWithRoom(m), defsWithRoom(defs)
			before, defsBefore := clonedMachine(machineMemory(own)), defsMemory(ownDefs)
			treeResults(own, ownDefs)
			impl.DefsOK(own, ownDefs)
			if !equalMachines(machineMemory(own), before) || !equalDefs(defsMemory(ownDefs), defsBefore) {
				t.Errorf("script %d is changed", i)
			}
		}
	}
}

func TestTreeResultsAreNewMemory(t *testing.T) {
	machines, lists := memoryScripts()
	for i, m := range machines {
		expected := treeResults(m, lists[i])
		own, ownDefs := machineWithRoom(m), defsWithRoom(lists[i])
		results := treeResults(own, ownDefs)
		spoilMachine(own)
		for _, x := range ownDefs {
			spoilItems(x.Items)
		}
		for what, got := range results {
			if !equalMachines(got, expected[what]) {
				t.Errorf("the result of %s of script %d shares memory with an argument", what, i)
			}
		}
		for what, got := range results {
			if !equalMachines(got, expected[what]) {
				t.Errorf("the result of %s of script %d shares memory with another result", what, i)
			}
			wantApart(t, fmt.Sprint(what, " of script ", i), got)
			spoilMachine(got)
		}
	}
}

// TestScriptSlicesAreApart gives RunTree a machine whose slices of cells are
// one piece of memory, and definitions whose items are another one.
func TestScriptSlicesAreApart(t *testing.T) {
	items := sourceItems("DUP DUP")
	m, defs := scriptOf("", "DUP", "DUP DUP", "DUP")
	defs[0].Items, defs[1].Items, defs[2].Items = items[:1], items, items[1:]
	memory := slices.Repeat([]int{1}, maxCells)
	m.Data.Cells, m.Host.Store = memory, memory[:storeSize]
	m.Data.Stack, m.Data.Back, m.Host.Answers = memory[:9], memory[:3], memory[:5]
	for what, want := range treeResults(clonedMachine(m), clonedDefs(defs)) {
		got := treeResults(m, defs)[what]
		if !equalMachines(got, want) {
			t.Errorf("%s depends on where its machine is: %s", what, machineText(got))
		}
		wantApart(t, what, got)
	}
	if !slices.Equal(memory, slices.Repeat([]int{1}, maxCells)) {
		t.Error("the machine is changed")
	}
}
