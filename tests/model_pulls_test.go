package tests

import (
	"slices"

	"loop.example/pullstreams/impl"
)

// This file has the meaning of pulls twice more. One model knows no state: for
// each node it lists what all pulls at it give, out of the lists below. The
// other one knows any valid state, and makes one pull.

// answer is what one pull at a node gives, and the pulls at the sources that
// it makes.
type answer struct {
	pulls []impl.Pull
	item  int
	ok    bool
}

// none returns the answer that gives no item.
func none(pulls []impl.Pull) answer {
	return answer{pulls: pulls}
}

// also returns an answer with other pulls ahead of its own.
func (a answer) also(ahead []impl.Pull) answer {
	a.pulls = slices.Concat(ahead, a.pulls)
	return a
}

// line is what is left of the answers of a node.
type line []answer

// next returns the next answer; behind the last one nothing is pulled any more.
func (l *line) next() answer {
	if len(*l) == 0 {
		return answer{}
	}
	first := (*l)[0]
	*l = (*l)[1:]
	return first
}

// untilNone returns the answers up to the first one that gives no item.
func untilNone(next func() answer) line {
	var out line
	for {
		out = append(out, next())
		if !out[len(out)-1].ok {
			return out
		}
	}
}

// wantAnswers returns what pulls at the node i give, up to the first one that
// gives no item.
func wantAnswers(e impl.Pipe, i int, src [][]int) line {
	n := e.Nodes[i]
	if n.Kind == impl.NkSource {
		var out line
		for at, x := range src[n.N] {
			out = append(out, answer{[]impl.Pull{{Source: n.N, Item: at}}, x, true})
		}
		return append(out, none([]impl.Pull{{Source: n.N, Item: -1}}))
	}
	a := wantAnswers(e, n.A, src)
	if slices.Contains(kindsOfTwo, n.Kind) {
		return wantOfTwo(n.Kind, a, wantAnswers(e, n.B, src))
	}
	return wantOfOne(n, a)
}

// wantOfOne returns the answers of a node with one below.
func wantOfOne(n impl.Node, a line) line {
	items := len(a) - 1
	switch n.Kind {
	case impl.NkTake:
		if n.N <= items {
			return append(slices.Clone(a[:n.N]), none(nil))
		}
		return a
	case impl.NkDrop:
		head := min(n.N, items)
		return append(line{a[head].also(pullsOf(a[:head]))}, a[head+1:]...)
	case impl.NkBatch:
		return untilNone(func() answer { return wantBatch(n.N, &a) })
	case impl.NkWhile:
		great := slices.IndexFunc(a[:items], func(x answer) bool { return x.item >= n.N })
		if great >= 0 {
			return append(slices.Clone(a[:great]), none(a[great].pulls))
		}
		return a
	case impl.NkFilter, impl.NkSkip, impl.NkOnce:
		return wantSome(n, a)
	}
	out, sum := slices.Clone(a), 0
	for j := range items {
		sum += a[j].item
		out[j].item = sum % 100
		if n.Kind == impl.NkMap {
			out[j].item = (n.N*a[j].item + n.M) % 100
		}
	}
	return out
}

// pullsOf returns the pulls of answers.
func pullsOf(list line) []impl.Pull {
	var out []impl.Pull
	for _, x := range list {
		out = append(out, x.pulls...)
	}
	return out
}

// wantBatch returns the answer of a batch of at most n items.
func wantBatch(n int, a *line) answer {
	var out answer
	for range n {
		x := a.next()
		out.pulls = slices.Concat(out.pulls, x.pulls)
		if !x.ok {
			break
		}
		out.item, out.ok = (out.item+x.item)%100, true
	}
	return out
}

// wantSome returns the answers of a node that leaves some items out.
func wantSome(n impl.Node, a line) line {
	var out line
	var ahead []impl.Pull
	great := false
	for j, x := range a {
		great = great || x.item >= n.N
		given := n.Kind == impl.NkFilter && x.item%n.N == n.M ||
			n.Kind == impl.NkSkip && great ||
			n.Kind == impl.NkOnce && (j == 0 || a[j-1].item != x.item)
		ahead = slices.Concat(ahead, x.pulls)
		if given || !x.ok {
			x.pulls, ahead = ahead, nil
			out = append(out, x)
		}
	}
	return out
}

// wantOfTwo returns the answers of a node with two below.
func wantOfTwo(kind int, a, b line) line {
	turn := 0
	var left, right []answer
	return untilNone(func() answer {
		switch kind {
		case impl.NkChain:
			return orElse(&a, &b)
		case impl.NkZip:
			x := a.next()
			if !x.ok {
				return x
			}
			y := b.next().also(x.pulls)
			if y.ok {
				y.item = (x.item + y.item) % 100
			}
			return y
		case impl.NkTurn:
			turn++
			if turn%2 == 1 {
				return orElse(&a, &b)
			}
			return orElse(&b, &a)
		}
		pulls := append(refill(&left, &a), refill(&right, &b)...)
		from := &right
		if len(right) == 0 || len(left) > 0 && left[0].item <= right[0].item {
			from = &left
		}
		if len(*from) == 0 {
			return none(pulls)
		}
		given := (*from)[0]
		*from = nil
		return answer{pulls, given.item, true}
	})
}

// orElse returns the next answer of a, or, if it gives none, that of b.
func orElse(a, b *line) answer {
	x := a.next()
	if x.ok {
		return x
	}
	return b.next().also(x.pulls)
}

// refill fetches an item if there is none, and returns the pulls for it.
func refill(kept *[]answer, from *line) []impl.Pull {
	if len(*kept) > 0 {
		return nil
	}
	x := from.next()
	if x.ok {
		*kept = []answer{x}
	}
	return slices.Clone(x.pulls)
}

// wantPull makes one pull at the node i in a state, which it changes, and
// returns what it gives.
func wantPull(e impl.Pipe, src [][]int, s impl.State, i int) answer {
	if s.Cells[i].Done {
		return answer{}
	}
	var out answer
	a := func() (int, bool) {
		x := wantPull(e, src, s, e.Nodes[i].A)
		out.pulls = append(out.pulls, x.pulls...)
		return x.item, x.ok
	}
	b := func() (int, bool) {
		x := wantPull(e, src, s, e.Nodes[i].B)
		out.pulls = append(out.pulls, x.pulls...)
		return x.item, x.ok
	}
	n, c := e.Nodes[i], &s.Cells[i]
	switch {
	case n.Kind == impl.NkSource:
		out = wantSource(n.N, src[n.N], c)
	case slices.Contains(kindsOfTwo, n.Kind):
		out.item, out.ok = wantFork(n.Kind, c, a, b)
	default:
		out.item, out.ok = wantStem(n, c, a)
	}
	if !out.ok {
		c.Done, out.item = true, 0
	}
	return out
}

// wantSource pulls at a node of a source.
func wantSource(source int, items []int, c *impl.Cell) answer {
	if c.Count >= len(items) {
		return none([]impl.Pull{{Source: source, Item: -1}})
	}
	at := c.Count
	c.Count++
	return answer{[]impl.Pull{{Source: source, Item: at}}, items[at], true}
}

// wantStem pulls at a node with one below.
func wantStem(n impl.Node, c *impl.Cell, a func() (int, bool)) (int, bool) {
	if n.Kind == impl.NkTake {
		if c.Count == n.N {
			return 0, false
		}
		c.Count++
	}
	sum := 0
	for got := 1; ; got++ {
		dropped := n.Kind == impl.NkDrop && c.Count < n.N
		if dropped {
			c.Count++
		}
		x, ok := a()
		if !ok {
			return sum, got > 1 && n.Kind == impl.NkBatch
		}
		sum = (sum + x) % 100
		switch {
		case n.Kind == impl.NkMap:
			return (n.N*x + n.M) % 100, true
		case n.Kind == impl.NkScan:
			c.Count = (c.Count + x) % 100
			return c.Count, true
		case n.Kind == impl.NkWhile:
			return x, x < n.N
		case n.Kind == impl.NkTake, n.Kind == impl.NkDrop && !dropped, n.Kind == impl.NkFilter && x%n.N == n.M:
			return x, true
		case n.Kind == impl.NkSkip && (c.Count == 1 || x >= n.N):
			c.Count = 1
			return x, true
		case n.Kind == impl.NkOnce && !(c.HasLeft && c.Left == x):
			c.HasLeft, c.Left = true, x
			return x, true
		case n.Kind == impl.NkBatch && got == n.N:
			return sum, true
		}
	}
}

// wantFork pulls at a node with two below.
func wantFork(kind int, c *impl.Cell, a, b func() (int, bool)) (int, bool) {
	switch kind {
	case impl.NkZip:
		if x, ok := a(); ok {
			y, ok := b()
			return (x + y) % 100, ok
		}
		return 0, false
	case impl.NkTurn:
		c.Count = (c.Count + 1) % 2
		if c.Count == 0 {
			a, b = b, a
		}
	case impl.NkMerge:
		if !c.HasLeft {
			c.Left, c.HasLeft = a()
		}
		if !c.HasRight {
			c.Right, c.HasRight = b()
		}
		kept := *c
		if !kept.HasLeft || kept.HasRight && kept.Right < kept.Left {
			c.Right, c.HasRight = 0, false
			return kept.Right, kept.HasRight
		}
		c.Left, c.HasLeft = 0, false
		return kept.Left, true
	}
	if x, ok := a(); ok {
		return x, true
	}
	return b()
}
