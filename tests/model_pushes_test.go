package tests

import (
	"slices"

	"loop.example/pullstreams/impl"
)

// This file has the meaning of pushes and queues once more. It pushes nothing:
// what the nodes give, and where the pushes stop, is told by the lists of the
// beginnings of the items, and a queue by how many items were made and used.

// wantLine reports whether a pipe is valid, and a line.
func wantLine(e impl.Pipe) bool {
	return wantValid(e) && !slices.ContainsFunc(e.Nodes, func(n impl.Node) bool { return slices.Contains(kindsOfTwo, n.Kind) })
}

// wantItems reports whether items can be pushed.
func wantItems(items []int) bool {
	return len(items) <= 12 && !slices.ContainsFunc(items, func(x int) bool { return x < 0 || x > 99 })
}

// wantOpenLists returns what each node of a line gives for items before the last
// sums: no batch sees items that do not fill it.
func wantOpenLists(e impl.Pipe, items []int) [][]int {
	lists := [][]int{items}
	for i, n := range e.Nodes[1:] {
		below := lists[i]
		if n.Kind == impl.NkBatch {
			below = below[:len(below)-len(below)%n.N]
		}
		lists = append(lists, wantList(one(n.Kind, n.N, n.M), 1, [][]int{below}))
	}
	return lists
}

// wantMore reports whether a line takes a further item after all of some were
// pushed.
func wantMore(e impl.Pipe, items []int) bool {
	lists := wantOpenLists(e, items)
	for i, n := range e.Nodes {
		if n.Kind == impl.NkTake && len(lists[i]) == n.N {
			return false
		}
		if n.Kind == impl.NkWhile && len(lists[i]) < len(lists[i-1]) {
			return false
		}
	}
	return true
}

// wantPushed returns the items that are pushed.
func wantPushed(e impl.Pipe, items []int) []int {
	for k := range items {
		if !wantMore(e, items[:k]) {
			return items[:k]
		}
	}
	return items
}

// wantOpen returns what a line gives for the items that are pushed, before the
// last sums.
func wantOpen(e impl.Pipe, items []int) []int {
	return wantOpenLists(e, wantPushed(e, items))[len(e.Nodes)-1]
}

// onLine returns sources with items in that of a line.
func onLine(e impl.Pipe, items []int) [][]int {
	out := make([][]int, impl.MaxSources)
	out[e.Nodes[0].N] = items
	return out
}

// wantGiven returns what a line gives for the items that are pushed.
func wantGiven(e impl.Pipe, items []int) []int {
	return wantList(e, len(e.Nodes)-1, onLine(e, wantPushed(e, items)))
}

// wantSteps reports whether the arguments of RunQueue are valid.
func wantSteps(e impl.Pipe, items []int, room int, steps []bool) bool {
	return wantLine(e) && wantItems(items) && room >= 1 && room <= 6 && len(steps) <= 60
}

// wantRunQueue returns the run of a queue, and the greatest number of items in
// it.
func wantRunQueue(e impl.Pipe, items []int, room int, steps []bool) (impl.QueueRun, int) {
	made, used, full, empty, most := 0, 0, 0, 0, 0
	pushed := len(wantPushed(e, items))
	// The line wants no more behind what is pushed, but perhaps behind all items.
	wants := func() bool { return used < pushed || used == len(items) && wantMore(e, items) }
	for _, producer := range steps {
		switch {
		case producer && made < min(len(items), used+room):
			made++
		case producer && made < len(items):
			full++
		case !producer && wants() && used < made:
			used++
		case !producer && wants():
			empty++
		}
		most = max(most, made-used)
	}
	return impl.QueueRun{Queue: items[used:made], Out: wantOpen(e, items[:used]), Made: made, Used: used, Full: full, Empty: empty}, most
}
