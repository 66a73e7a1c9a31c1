package tests

// Promise 1 for the trees: the calls that tests/calls_test.go makes of them.

import (
	"fmt"
	"slices"

	"loop.example/g00787/impl"
)

func callsOfTrees() []call {
	var list []call
	for i, items := range someItemLists() {
		list = append(list, call{fmt.Sprint("TreeOf ", i), func() outcome {
			tree, code := impl.TreeOf(items)
			return outcome{text: treeText(tree), code: code}
		}})
	}
	round := nodesOf("IF(5|6)")
	round[0].B = round
	trees := append(memoryTrees(), round, nested(nil, 1000, 1), make([]impl.Node, maxItems), slices.Repeat(round, impl.MaxList+1))
	for _, x := range badNodes() {
		trees = append(trees, []impl.Node{x}, nested([]impl.Node{x}, 3, 5))
	}
	for i, tree := range trees {
		list = append(list, call{fmt.Sprint("ItemsOf ", i), func() outcome {
			items, code := impl.ItemsOf(tree)
			return outcome{text: itemsText(items), code: code}
		}})
		for k, other := range trees[:min(i+2, len(trees))] {
			list = append(list, call{fmt.Sprint("SameTree ", i, k), func() outcome { return outcome{yes: impl.SameTree(tree, other)} }})
		}
	}
	return list
}

func callsOfScripts() []call {
	var list []call
	machines, lists := memoryScripts()
	machines = append(machines, impl.NewMachine(), plainMachine(), impl.Machine{}, badMachines()[40])
	lists = append(lists, nil, lists[0][1:], []impl.Def{{}}, []impl.Def{{Word: minInt, Items: someItemLists()[3]}, {Word: maxInt}}, make([]impl.Def, impl.MaxList+1))
	for i, m := range machines {
		for k, defs := range lists {
			list = append(list, call{fmt.Sprint("DefsOK ", i, k), func() outcome { return outcome{yes: impl.DefsOK(m, defs)} }})
			for _, token := range []int{minInt, -1, 0, 1, 53, 54, 55, 56, 57, 66, 67, 84, 86, 87, 88, 89, 90, 91, maxInt} {
				list = append(list, call{fmt.Sprint("RunTree ", i, k, token), func() outcome {
					next, throw, code := impl.RunTree(m, defs, token)
					return outcome{throw: throw, text: machineText(next), code: code}
				}})
			}
		}
	}
	return list
}

// treeText and itemsText make no difference between an empty list and nil.
func treeText(tree []impl.Node) string {
	if len(tree) == 0 {
		return ""
	}
	return fmt.Sprint(tree)
}

func itemsText(list []impl.Item) string {
	if len(list) == 0 {
		return ""
	}
	return fmt.Sprint(list)
}
