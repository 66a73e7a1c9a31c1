package tests

// Promise 8, how deep a tree may be: MaxDepth + 1 lists of nodes in each other,
// with an empty list at the end that does not count.

import (
	"fmt"
	"slices"
	"testing"

	"loop.example/g00787/impl"
)

// levelsOf counts a level for each list that has nodes.
func levelsOf(tree []impl.Node) int {
	levels := 0
	for _, x := range tree {
		levels = max(levels, 1+levelsOf(x.A), 1+levelsOf(x.B))
	}
	return levels
}

// wantItemsOnly expects a tree of nine levels that ends with a structure, so
// that TreeOf refuses the items: nine structures are open in them.
func wantItemsOnly(t *testing.T, what string, tree []impl.Node) {
	t.Helper()
	list := itemsOf(sourceOf(tree))
	if got, code := impl.ItemsOf(tree); code != impl.OK || !slices.Equal(got, list) {
		t.Errorf("%s: ItemsOf = %v, %d, not %v", what, got, code, list)
	}
	if !impl.SameTree(tree, clonedTree(tree)) || impl.SameTree(tree, nil) || impl.SameTree(nil, tree) {
		t.Errorf("%s is the same as another tree, or not as its copy", what)
	}
	wantNoTree(t, list, impl.ErrControl)
}

func TestTreesUpToMaxDepth(t *testing.T) {
	for place := range structuresAround(nil) {
		for depth := range maxDepth + 1 {
			for _, inside := range []string{"", "5", "w1 RECURSE"} {
				tree := nested(nodesOf(inside), depth, place)
				wantItems(t, fmt.Sprint(depth, " structures ", place, " around ", inside), tree)
				wantItems(t, fmt.Sprint(depth, " structures ", place, " around ", inside, " and others"), slices.Concat(nodesOf("IF()"), tree, nodesOf("LOOP(5)")))
			}
		}
		for _, depth := range []int{maxDepth + 1, maxDepth + 2, 20, 100} {
			for _, inside := range []string{"5", "w1 RECURSE", "IF()", "IF(|)", "LOOP() 5"} {
				tree := nested(nodesOf(inside), depth, place)
				wantNoItems(t, fmt.Sprint(depth, " structures ", place, " around ", inside), tree, impl.ErrBad)
				wantNoItems(t, fmt.Sprint(depth, " structures ", place, " behind others"), append(nodesOf("IF() 5"), tree...), impl.ErrBad)
			}
		}
	}
}

// TestNineEmptyStructures has the last level taken by structures, with nothing
// in them unless it is in their other branch.
func TestNineEmptyStructures(t *testing.T) {
	for place, last := range structuresAround(nil) {
		for i := range structuresAround(nil) {
			tree := nested([]impl.Node{last}, maxDepth, i)
			what := fmt.Sprint(maxDepth, " structures ", i, " around structure ", place)
			if len(last.A) > 0 {
				wantNoItems(t, what, tree, impl.ErrBad)
				continue
			}
			wantItemsOnly(t, what, tree)
			wantItemsOnly(t, what+" and others", slices.Concat(nodesOf("IF() 5"), tree, nodesOf("w1 LOOP(5)")))
			wantNoItems(t, what+" in one more", nested(tree, 1, i), impl.ErrBad)
			for _, inside := range []string{"5", "w1", "RECURSE", "IF()", "WHILE(|)"} {
				full := nested(structuresAround(nodesOf(inside))[place:place+1], maxDepth, i)
				wantNoItems(t, what+" with "+inside, full, impl.ErrBad)
			}
		}
	}
}

// TestNineLevelsUpToMaxItems has many empty structures at the last level.
func TestNineLevelsUpToMaxItems(t *testing.T) {
	for _, last := range []string{"IF()", "UNTIL()", "LOOP()", "+LOOP()"} {
		for _, place := range []int{0, 4, 8, 9} {
			most := maxItems/2 - maxDepth
			wantItemsOnly(t, fmt.Sprint(most, " times ", last, " in structures ", place), nested(slices.Repeat(nodesOf(last), most), maxDepth, place))
			wantNoItems(t, fmt.Sprint("once more ", last, " in structures ", place), nested(slices.Repeat(nodesOf(last), most+1), maxDepth, place), impl.ErrBad)
		}
	}
}

// TestSameTreeAtTheLastLevel compares structures within eight others.
func TestSameTreeAtTheLastLevel(t *testing.T) {
	for i, x := range structuresAround(nil) {
		for k, y := range structuresAround(nil) {
			for place := range structuresAround(nil) {
				a, b := nested([]impl.Node{x}, maxDepth, place), nested([]impl.Node{y}, maxDepth, place)
				if want := levelsOf(a) == maxDepth+1 && equalTrees(a, b); impl.SameTree(a, b) != want {
					t.Errorf("structures %d and %d in structures %d: SameTree is not %v", i, k, place, want)
				}
			}
		}
	}
}

// TestDeepTreesOfMixedStructures has eight structures, and one more, which may
// only be empty.
func TestDeepTreesOfMixedStructures(t *testing.T) {
	count := len(structuresAround(nil))
	mixed := func(tree []impl.Node, first int) []impl.Node {
		for depth := range maxDepth {
			tree = append(nodesOf("6"), structuresAround(tree)[(first+depth*3)%count])
		}
		return tree
	}
	for first := range count {
		tree := mixed(nodesOf("5"), first)
		wantItems(t, fmt.Sprint("eight structures from ", first), tree)
		for place := range count {
			wantNoItems(t, fmt.Sprint("nine structures from ", first, ", ", place), nested(tree, 1, place), impl.ErrBad)
			nine := mixed(structuresAround(nil)[place:place+1], first)
			if levelsOf(nine) > maxDepth+1 {
				wantNoItems(t, fmt.Sprint("nine structures from ", first, " around 5 in ", place), nine, impl.ErrBad)
			} else {
				wantItemsOnly(t, fmt.Sprint("nine structures from ", first, " around ", place), nine)
			}
		}
	}
}
