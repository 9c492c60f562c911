package tests

import (
	"slices"

	"loop.example/pullstreams/impl"
)

// This file has the meaning of rules once more. A rule changes nodes where they
// are, and a walk down from the end leaves out those that are not used any
// more.

// wantRule returns the rule at the node i of a valid pipe.
func wantRule(e impl.Pipe, i int) int {
	n := e.Nodes[i]
	if !slices.Contains(kindsOfOne, n.Kind) {
		return impl.RuNone
	}
	for _, idle := range idleNodes() {
		idle.A = n.A
		if n == idle {
			return impl.RuIdle
		}
	}
	low := e.Nodes[n.A]
	switch {
	case n.Kind == impl.NkTake && low.Kind == impl.NkMap:
		return impl.RuSink
	case n.Kind != low.Kind:
		return impl.RuNone
	case n.Kind == impl.NkDrop && n.N+low.N > 30:
		return impl.RuNone
	case n.Kind == impl.NkFilter && (n.N != low.N || n.M != low.M):
		return impl.RuNone
	case n.Kind == impl.NkScan || n.Kind == impl.NkBatch:
		return impl.RuNone
	}
	return impl.RuFuse
}

// idleNodes returns the nodes that do nothing, over the node 0.
func idleNodes() []impl.Node {
	return []impl.Node{over(impl.NkMap, 0, 1, 0), over(impl.NkFilter, 0, 1, 0), over(impl.NkBatch, 0, 1, 0), over(impl.NkDrop, 0, 0, 0), over(impl.NkSkip, 0, 0, 0)}
}

// wantApplied returns a valid pipe, in order, after the rule at the node i.
func wantApplied(e impl.Pipe, i int) impl.Pipe {
	nodes := slices.Clone(e.Nodes)
	n := nodes[i]
	switch wantRule(e, i) {
	case impl.RuIdle:
		nodes[i] = nodes[n.A]
	case impl.RuFuse:
		nodes[i] = wantFused(nodes[n.A], n)
	case impl.RuSink:
		low := nodes[n.A]
		nodes[n.A] = over(impl.NkTake, low.A, n.N, 0)
		nodes[i] = over(impl.NkMap, n.A, low.N, low.M)
	}
	return wantPart(impl.Pipe{Nodes: nodes}, len(nodes)-1)
}

// wantFused returns one node for two.
func wantFused(low, high impl.Node) impl.Node {
	greater := max(low.N, high.N)
	out := low
	switch low.Kind {
	case impl.NkMap:
		// What becomes of 0 and of 1 tells the numbers.
		become := func(x int) int {
			return (high.N*((low.N*x+low.M)%100) + high.M) % 100
		}
		out.M = become(0)
		out.N = (become(1) + 100 - become(0)) % 100
	case impl.NkTake, impl.NkWhile:
		out.N = low.N + high.N - greater
	case impl.NkSkip:
		out.N = greater
	case impl.NkDrop:
		out.N += high.N
	}
	return out
}

// wantNormal returns a valid pipe, in order, after all rules, and how many of
// them were applied.
func wantNormal(e impl.Pipe) (impl.Pipe, int) {
	e = wantPart(e, len(e.Nodes)-1)
	for i := range e.Nodes {
		if wantRule(e, i) != impl.RuNone {
			normal, rules := wantNormal(wantApplied(e, i))
			return normal, rules + 1
		}
	}
	return e, 0
}

// wantCompare returns how valid pipes differ for sources.
func wantCompare(e, f impl.Pipe, src [][]int) int {
	a, b := wantAnswers(e, len(e.Nodes)-1, src), wantAnswers(f, len(f.Nodes)-1, src)
	if !slices.EqualFunc(a, b, func(x, y answer) bool { return x.ok == y.ok && x.item == y.item }) {
		return impl.CoOther
	}
	if !slices.EqualFunc(a, b, func(x, y answer) bool { return samePulls(x.pulls, y.pulls) }) {
		return impl.CoList
	}
	return impl.CoSame
}

// wantWitness returns the first small list for which valid pipes differ at
// least so much.
func wantWitness(e, f impl.Pipe, how int) ([]int, bool) {
	for _, list := range smallLists(3) {
		if wantCompare(e, f, [][]int{list, nil, nil}) >= how {
			return list, true
		}
	}
	return nil, false
}
