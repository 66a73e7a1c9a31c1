package tests

// Promise 8, how large a tree may be, and which two trees are the same.

import (
	"fmt"
	"slices"
	"testing"

	"loop.example/g00787/impl"
)

// fives is a list of so many literals.
func fives(size int) []impl.Node {
	return slices.Repeat(nodesOf("5"), size)
}

func TestTreesUpToMaxItems(t *testing.T) {
	for _, size := range []int{0, 1, maxItems - 1, maxItems} {
		wantItems(t, fmt.Sprint(size, " literals"), fives(size))
	}
	for _, text := range []string{"IF()", "UNTIL()", "LOOP()", "+LOOP()"} {
		wantItems(t, fmt.Sprint("30 times ", text), slices.Repeat(nodesOf(text), maxItems/2))
		wantNoItems(t, fmt.Sprint("31 times ", text), slices.Repeat(nodesOf(text), maxItems/2+1), impl.ErrBad)
		wantNoItems(t, fmt.Sprint("60 times ", text), slices.Repeat(nodesOf(text), maxItems), impl.ErrBad)
	}
	for _, text := range []string{"IF(|)", "WHILE(|)", "IF(5)", "LOOP(w1)"} {
		wantItems(t, fmt.Sprint("20 times ", text), slices.Repeat(nodesOf(text), maxItems/3))
		wantNoItems(t, fmt.Sprint("20 times ", text, " and one more"), append(slices.Repeat(nodesOf(text), maxItems/3), nodesOf("5")...), impl.ErrBad)
	}
	for place, x := range structuresAround(nil) {
		around := len(itemsOf(sourceOf([]impl.Node{x})))
		full := structuresAround(fives(maxItems - around))[place]
		wantItems(t, fmt.Sprint("60 items in structure ", place), []impl.Node{full})
		wantNoItems(t, fmt.Sprint("61 items behind structure ", place), append([]impl.Node{full}, fives(1)...), impl.ErrBad)
		wantNoItems(t, fmt.Sprint("61 items before structure ", place), append(fives(1), full), impl.ErrBad)
		for _, size := range []int{maxItems - around + 1, maxItems, maxItems + 1, impl.MaxList, impl.MaxList + 1, 1 << 15} {
			tree := []impl.Node{structuresAround(fives(size))[place]}
			wantNoItems(t, fmt.Sprint(size, " literals in structure ", place), tree, impl.ErrBad)
			wantNoItems(t, fmt.Sprint(size, " literals in two structures ", place), nested(tree, 1, place), impl.ErrBad)
		}
	}
	wantTree(t, slices.Repeat(itemsOf("5"), maxItems))
	wantTree(t, slices.Repeat(itemsOf("DO LOOP"), maxItems/2))
}

// TestTreesWithManyNodes has trees that are refused for their size at the top,
// whatever is in them.
func TestTreesWithManyNodes(t *testing.T) {
	for wantCode, sizes := range map[int][]int{impl.ErrMany: {maxItems + 1, maxItems + 2, 1000, impl.MaxList - 1, impl.MaxList}, impl.ErrLong: {impl.MaxList + 1, 2 * impl.MaxList, 1 << 20}} {
		for _, size := range sizes {
			wantNoItems(t, fmt.Sprint(size, " literals"), fives(size), wantCode)
			wantNoItems(t, fmt.Sprint(size, " zero nodes"), make([]impl.Node, size), wantCode)
			wantNoItems(t, fmt.Sprint(size, " deep trees"), slices.Repeat(nested(nil, 30, 0), size), wantCode)
		}
	}
}

// TestSharedNodes has trees of little memory that stand for very many items, or
// for a tree without end.
func TestSharedNodes(t *testing.T) {
	for place := range structuresAround(nil) {
		tree := fives(maxItems)
		for range maxDepth {
			tree = slices.Repeat([]impl.Node{structuresAround(tree)[place]}, maxItems)
		}
		wantNoItems(t, fmt.Sprint("very many structures ", place), tree, impl.ErrBad)
		round := make([]impl.Node, 1)
		round[0] = structuresAround(round)[place]
		wantNoItems(t, fmt.Sprint("structure ", place, " within itself"), round, impl.ErrBad)
		wantNoItems(t, fmt.Sprint("structure ", place, " within itself, 60 times"), slices.Repeat(round, maxItems), impl.ErrBad)
		wantNoItems(t, fmt.Sprint("a thousand structures ", place), nested(nil, 1000, place), impl.ErrBad)
	}
	var deep []impl.Node
	for range 1_000_000 {
		deep = []impl.Node{{Kind: impl.ItUntil, A: deep}}
	}
	wantNoItems(t, "a million loops", deep, impl.ErrBad)
	shared := nodesOf("5 IF(w1)")
	wantItems(t, "shared branches", []impl.Node{{Kind: impl.ItIf, Value: 1, A: shared, B: shared}, {Kind: impl.ItLoop, A: shared}})
}

// otherNodes differ from the node in one field, and are nodes of a tree.
func otherNodes(x impl.Node) []impl.Node {
	var list []impl.Node
	turned := func(turn func(y *impl.Node)) {
		y := clonedTree([]impl.Node{x})[0]
		turn(&y)
		if isTree([]impl.Node{y}) && !equalTrees([]impl.Node{x}, []impl.Node{y}) {
			list = append(list, y)
		}
	}
	for kind := range 14 {
		turned(func(y *impl.Node) { y.Kind = kind })
	}
	for _, step := range []int{-1, 1} {
		turned(func(y *impl.Node) { y.Value += step })
	}
	for _, more := range []string{"5", "w1", "RECURSE", "IF()"} {
		turned(func(y *impl.Node) { y.A = append(y.A, nodesOf(more)...) })
		turned(func(y *impl.Node) { y.B = append(nodesOf(more), y.B...) })
	}
	turned(func(y *impl.Node) { y.A = nil })
	turned(func(y *impl.Node) { y.B = nil })
	turned(func(y *impl.Node) { y.A, y.B = y.B, y.A })
	return list
}

func TestSameTree(t *testing.T) {
	if !impl.SameTree(nil, nil) || !impl.SameTree(nil, []impl.Node{}) || !impl.SameTree([]impl.Node{{Kind: impl.ItIf, A: []impl.Node{}}}, nodesOf("IF()")) {
		t.Error("nil is not the same as an empty list")
	}
	compared := 0
	for _, text := range []string{"w7", "5", "RECURSE", "IF(5)", "IF(5|w1)", "IF(|)", "UNTIL(5)", "WHILE(5|w1)", "WHILE(|)", "LOOP(5)", "+LOOP(w1)", "LOOP()"} {
		x := nodesOf(text)[0]
		for _, y := range otherNodes(x) {
			for place := range structuresAround(nil) {
				for depth := range maxDepth - 1 {
					compared++
					a, b := nested([]impl.Node{x}, depth, place), nested([]impl.Node{y}, depth, place)
					if !impl.SameTree(a, clonedTree(a)) || !impl.SameTree(b, clonedTree(b)) || impl.SameTree(a, b) || impl.SameTree(b, a) {
						t.Errorf("SameTree of %v and %v", a, b)
					}
				}
			}
		}
	}
	if compared < 1000 {
		t.Errorf("%d pairs", compared)
	}
}

// TestSameTreeOfManyTrees compares trees of the same items in other structures.
func TestSameTreeOfManyTrees(t *testing.T) {
	var trees [][]impl.Node
	everyList(nil, []int{2, 3, 4, 5, 6, 7, 8, 9, 10, 11, 12}, 4, func(list []impl.Item) {
		if open, fits := leftOpen(list); fits && len(open) == 0 {
			trees = append(trees, wantTree(t, list))
		}
	})
	for i, a := range trees {
		for k, b := range trees {
			if impl.SameTree(a, b) != (i == k) {
				t.Errorf("SameTree of %v and %v", a, b)
			}
		}
	}
	if len(trees) < 80 {
		t.Errorf("%d trees", len(trees))
	}
}
