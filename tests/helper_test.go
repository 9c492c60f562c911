package tests

import (
	"math/rand/v2"
	"slices"
	"testing"

	"loop.example/pullstreams/impl"
)

// kindsOfOne are the kinds with one node below.
var kindsOfOne = []int{impl.NkMap, impl.NkFilter, impl.NkTake, impl.NkDrop, impl.NkWhile, impl.NkSkip, impl.NkScan, impl.NkBatch, impl.NkOnce}

// kindsOfTwo are the kinds with two nodes below.
var kindsOfTwo = []int{impl.NkChain, impl.NkZip, impl.NkMerge, impl.NkTurn}

// node returns a node.
func node(kind, a, b, n, m int) impl.Node {
	return impl.Node{Kind: kind, A: a, B: b, N: n, M: m}
}

// from returns a node of a source.
func from(n int) impl.Node {
	return node(impl.NkSource, -1, -1, n, 0)
}

// over returns a node with one below.
func over(kind, a, n, m int) impl.Node {
	return node(kind, a, -1, n, m)
}

// both returns a node with two below.
func both(kind, a, b int) impl.Node {
	return node(kind, a, b, 0, 0)
}

// pipe returns a pipe.
func pipe(nodes ...impl.Node) impl.Pipe {
	return impl.Pipe{Nodes: nodes}
}

// one returns a pipe of one node over the source 0.
func one(kind, n, m int) impl.Pipe {
	return pipe(from(0), over(kind, 0, n, m))
}

// two returns a pipe of one node over the sources 0 and 1.
func two(kind int) impl.Pipe {
	return pipe(from(0), from(1), both(kind, 0, 1))
}

// tower returns a line of as many nodes, over the source 0.
func tower(nodes int) impl.Pipe {
	e := pipe(from(0))
	for i := range nodes - 1 {
		e.Nodes = append(e.Nodes, over(impl.NkMap, i, 1, 1))
	}
	return e
}

// samePipe reports whether two pipes have the same nodes.
func samePipe(a, b impl.Pipe) bool {
	return slices.Equal(a.Nodes, b.Nodes)
}

// putOn returns PutOn, which must succeed.
func putOn(t *testing.T, e impl.Pipe, kind, n, m int) impl.Pipe {
	t.Helper()
	out, ok := impl.PutOn(e, over(kind, -1, n, m))
	if !ok {
		t.Fatalf("PutOn(%v, kind %d, %d, %d) failed", e, kind, n, m)
	}
	return out
}

// dice are numbers that look random, and are the same in each run.
type dice struct {
	*rand.Rand
}

// newDice returns dice.
func newDice(seed uint64) dice {
	return dice{rand.New(rand.NewPCG(seed, 1))}
}

// upTo returns a number in low..high.
func (d dice) upTo(low, high int) int {
	return low + d.IntN(high-low+1)
}

// numbers returns an N and an M for a kind, small ones more often.
func (d dice) numbers(kind int) (int, int) {
	wide := d.IntN(4) == 0
	pick := func(low, small, great int) int {
		if wide {
			return d.upTo(low, great)
		}
		return d.upTo(low, small)
	}
	switch kind {
	case impl.NkSource:
		return d.IntN(impl.MaxSources), 0
	case impl.NkMap:
		return pick(0, 3, 99), pick(0, 3, 99)
	case impl.NkFilter:
		n := pick(1, 3, 30)
		return n, d.IntN(n)
	case impl.NkTake, impl.NkDrop:
		return pick(0, 6, 30), 0
	case impl.NkWhile, impl.NkSkip:
		return pick(0, 9, 99), 0
	case impl.NkBatch:
		return pick(1, 4, 30), 0
	}
	return 0, 0
}

// pipe returns a valid pipe of as many nodes, in which those of a part need
// not stand together.
func (d dice) pipe(nodes int) impl.Pipe {
	e := impl.Pipe{}
	var tops []int // the nodes that are below none yet
	take := func() int {
		i := d.IntN(len(tops))
		top := tops[i]
		tops = slices.Delete(tops, i, i+1)
		return top
	}
	for i := range nodes {
		left := nodes - i - 1
		var may []impl.Node
		if len(tops) <= left { // enough nodes are left to join the tops
			may = append(may, from(0))
		}
		if len(tops) > 0 && len(tops)-1 <= left {
			may = append(may, over(kindsOfOne[d.IntN(len(kindsOfOne))], 0, 0, 0))
		}
		if len(tops) > 1 {
			may = append(may, both(kindsOfTwo[d.IntN(len(kindsOfTwo))], 0, 0))
		}
		n := may[d.IntN(len(may))]
		n.N, n.M = d.numbers(n.Kind)
		if n.A != -1 {
			n.A = take()
		}
		if n.B != -1 {
			n.B = take()
		}
		e.Nodes = append(e.Nodes, n)
		tops = append(tops, i)
	}
	return e
}

// lineOf returns a valid pipe of as many nodes without nodes with two below.
func (d dice) lineOf(nodes int) impl.Pipe {
	e := pipe(from(d.IntN(impl.MaxSources)))
	for i := range nodes - 1 {
		kind := kindsOfOne[d.IntN(len(kindsOfOne))]
		n, m := d.numbers(kind)
		e.Nodes = append(e.Nodes, over(kind, i, n, m))
	}
	return e
}

// src returns valid sources, some of which have no items, or equal neighbours.
func (d dice) src() [][]int {
	out := make([][]int, impl.MaxSources)
	for s := range out {
		great := []int{1, 5, 20, 99}[d.IntN(4)]
		for range []int{0, 3, 8, 12}[d.IntN(4)] {
			out[s] = append(out[s], d.upTo(0, great))
		}
	}
	return out
}

// eachPipe calls a test for many valid pipes and sources, of each number of
// nodes up to most.
func eachPipe(t *testing.T, most int, test func(e impl.Pipe, src [][]int, d dice)) {
	t.Helper()
	d := newDice(uint64(most))
	for round := range 4000 {
		test(d.pipe(1+round%most), d.src(), d)
		if t.Failed() {
			return
		}
	}
}
