package tests

import (
	"slices"

	"loop.example/pullstreams/impl"
)

// This file has the meaning of pipes once more, told as directly as possible,
// so that the tests can hold the program against it.

// wantList returns the list of the node i of a valid pipe.
func wantList(e impl.Pipe, i int, src [][]int) []int {
	n := e.Nodes[i]
	var a, b, out []int
	if n.A >= 0 {
		a = wantList(e, n.A, src)
	}
	if n.B >= 0 {
		b = wantList(e, n.B, src)
	}
	great := slices.IndexFunc(a, func(x int) bool { return x >= n.N })
	if great < 0 {
		great = len(a)
	}
	for j, x := range a {
		sum := func(low, high int) int {
			s := 0
			for _, y := range a[low:high] {
				s += y
			}
			return s % 100
		}
		switch {
		case n.Kind == impl.NkMap:
			out = append(out, (n.N*x+n.M)%100)
		case n.Kind == impl.NkFilter && (x-n.M)%n.N == 0,
			n.Kind == impl.NkTake && j < n.N,
			n.Kind == impl.NkDrop && j >= n.N,
			n.Kind == impl.NkWhile && j < great,
			n.Kind == impl.NkSkip && j >= great,
			n.Kind == impl.NkOnce && (j == 0 || x != a[j-1]),
			n.Kind == impl.NkChain:
			out = append(out, x)
		case n.Kind == impl.NkScan:
			out = append(out, sum(0, j+1))
		case n.Kind == impl.NkBatch && j%n.N == 0:
			out = append(out, sum(j, min(j+n.N, len(a))))
		case n.Kind == impl.NkZip && j < len(b):
			out = append(out, (x+b[j])%100)
		}
	}
	switch n.Kind {
	case impl.NkSource:
		out = slices.Clone(src[n.N])
	case impl.NkChain:
		out = append(out, b...)
	case impl.NkMerge:
		out = wantMerge(a, b)
	case impl.NkTurn:
		out = wantTurn(a, b)
	}
	return out
}

// wantMerge returns both lists merged.
func wantMerge(a, b []int) []int {
	switch {
	case len(a) == 0:
		return b
	case len(b) == 0:
		return a
	case a[0] <= b[0]:
		return append([]int{a[0]}, wantMerge(a[1:], b)...)
	}
	return append([]int{b[0]}, wantMerge(a, b[1:])...)
}

// wantTurn returns both lists by turns.
func wantTurn(a, b []int) []int {
	if len(a) == 0 {
		return b
	}
	return append([]int{a[0]}, wantTurn(b, a[1:])...)
}

// wantValid reports whether a pipe is valid: each node fits, and a walk from
// the end down to earlier nodes comes to each node just once.
func wantValid(e impl.Pipe) bool {
	if len(e.Nodes) == 0 || len(e.Nodes) > 12 {
		return false
	}
	for _, n := range e.Nodes {
		if !wantFit(n) {
			return false
		}
	}
	visits := make([]int, len(e.Nodes))
	visits[len(e.Nodes)-1] = 1
	for i := len(e.Nodes) - 1; i >= 0; i-- {
		if visits[i] != 1 {
			return false
		}
		n := e.Nodes[i]
		hasA, hasB := n.Kind != impl.NkSource, slices.Contains(kindsOfTwo, n.Kind)
		if hasA != (n.A != -1) || hasB != (n.B != -1) || n.A < -1 || n.A >= i || n.B < -1 || n.B >= i {
			return false
		}
		for _, below := range []int{n.A, n.B} {
			if below != -1 {
				visits[below]++
			}
		}
	}
	return true
}

// wantFit reports whether the numbers of a node fit to its kind.
func wantFit(n impl.Node) bool {
	least, most, rest := 0, 0, 0
	switch n.Kind {
	case impl.NkSource:
		most = 2
	case impl.NkMap:
		most, rest = 99, 99
	case impl.NkFilter:
		least, most, rest = 1, 30, n.N-1
	case impl.NkTake, impl.NkDrop:
		most = 30
	case impl.NkWhile, impl.NkSkip:
		most = 99
	case impl.NkBatch:
		least, most = 1, 30
	}
	return n.Kind >= 0 && n.Kind <= 13 && n.N >= least && n.N <= most && n.M >= 0 && n.M <= rest
}
