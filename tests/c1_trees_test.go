package tests

import (
	"math"
	"slices"
	"testing"

	"loop.example/pullstreams/impl"
)

// tangled is a pipe of five nodes that are not in order.
func tangled() impl.Pipe {
	return pipe(from(2), from(0), over(impl.NkTake, 1, 4, 0), over(impl.NkMap, 0, 2, 3), both(impl.NkMerge, 2, 3))
}

// wantOrder returns the indices of the nodes below the node i, and of it, in
// order.
func wantOrder(e impl.Pipe, i int) []int {
	if i < 0 {
		return nil
	}
	n := e.Nodes[i]
	return append(append(wantOrder(e, n.A), wantOrder(e, n.B)...), i)
}

// wantPart returns the pipe of the node i, in order.
func wantPart(e impl.Pipe, i int) impl.Pipe {
	var out impl.Pipe
	order := wantOrder(e, i)
	for _, old := range order {
		n := e.Nodes[old]
		n.A, n.B = slices.Index(order, n.A), slices.Index(order, n.B)
		out.Nodes = append(out.Nodes, n)
	}
	return out
}

func TestSourcesOf(t *testing.T) {
	for _, c := range []struct {
		e    impl.Pipe
		want []int
	}{
		{pipe(from(1)), []int{1}},
		{tangled(), []int{0, 2}},
		{pipe(from(2), from(2), both(impl.NkZip, 0, 1)), []int{2}},
		{pipe(from(2), from(1), both(impl.NkZip, 0, 1), from(0), both(impl.NkChain, 2, 3), from(1), both(impl.NkTurn, 4, 5)), []int{0, 1, 2}},
	} {
		if got := impl.SourcesOf(c.e); !slices.Equal(got, c.want) {
			t.Errorf("SourcesOf(%v) = %v", c.e, got)
		}
	}
	eachPipe(t, 12, func(e impl.Pipe, _ [][]int, _ dice) {
		var want []int
		for s := range impl.MaxSources {
			if slices.Contains(e.Nodes, from(s)) {
				want = append(want, s)
			}
		}
		if got := impl.SourcesOf(e); !slices.Equal(got, want) {
			t.Errorf("SourcesOf(%v) = %v", e, got)
		}
	})
}

// TestP2PartsArePipes: PartOf each node of a valid pipe is valid, and is what
// is below the node.
func TestP2PartsArePipes(t *testing.T) {
	eachPipe(t, 12, func(e impl.Pipe, src [][]int, _ dice) {
		for i := range e.Nodes {
			part := impl.PartOf(e, i)
			if !impl.ValidPipe(part) || !samePipe(part, wantPart(e, i)) {
				t.Errorf("PartOf(%v, %d) = %v", e, i, part)
			}
			checkList(t, part, src, wantList(e, i, src))
		}
	})
}

func TestPartsThatAreNotThere(t *testing.T) {
	for _, i := range []int{-1, 5, 6, math.MinInt, math.MaxInt} {
		if part := impl.PartOf(tangled(), i); len(part.Nodes) > 0 {
			t.Errorf("PartOf(.., %d) = %v", i, part)
		}
	}
	if part := impl.PartOf(tangled(), 3); !samePipe(part, pipe(from(2), over(impl.NkMap, 0, 2, 3))) {
		t.Errorf("PartOf(.., 3) = %v", part)
	}
	if part := impl.PartOf(tangled(), 1); !samePipe(part, pipe(from(0))) {
		t.Errorf("PartOf(.., 1) = %v", part)
	}
}

// TestP7LinesHaveOneSource: IsLine holds exactly if there is just one node of
// NkSource.
func TestP7LinesHaveOneSource(t *testing.T) {
	eachPipe(t, 12, func(e impl.Pipe, _ [][]int, _ dice) {
		sources := 0
		for _, n := range e.Nodes {
			if n.Kind == impl.NkSource {
				sources++
			}
		}
		if impl.IsLine(e) != (sources == 1) {
			t.Errorf("IsLine(%v) = %v", e, sources != 1)
		}
	})
	for _, kind := range kindsOfTwo {
		if impl.IsLine(two(kind)) || impl.IsLine(putOn(t, two(kind), impl.NkOnce, 0, 0)) {
			t.Errorf("IsLine with a node of the kind %d = true", kind)
		}
	}
	if !impl.IsLine(tower(1)) || !impl.IsLine(tower(12)) {
		t.Error("IsLine of a tower = false")
	}
}

// wantDepth returns the depth of the node i.
func wantDepth(e impl.Pipe, i int) int {
	if i < 0 {
		return 0
	}
	return 1 + max(wantDepth(e, e.Nodes[i].A), wantDepth(e, e.Nodes[i].B))
}

// TestP8PipesAreOneDeeper: with one more node on its end a pipe is one deeper,
// and no part is deeper than it.
func TestP8PipesAreOneDeeper(t *testing.T) {
	eachPipe(t, 11, func(e impl.Pipe, _ [][]int, d dice) {
		depth := impl.DepthOf(e)
		if depth != wantDepth(e, len(e.Nodes)-1) {
			t.Errorf("DepthOf(%v) = %d", e, depth)
		}
		for _, kind := range kindsOfOne {
			n, m := d.numbers(kind)
			if more := impl.DepthOf(putOn(t, e, kind, n, m)); more != depth+1 {
				t.Errorf("DepthOf(%v) = %d, and %d with one more", e, depth, more)
			}
		}
		for i := range e.Nodes {
			if part := impl.DepthOf(impl.PartOf(e, i)); part > depth || part < 1 {
				t.Errorf("DepthOf(%v) = %d, and %d of a part", e, depth, part)
			}
		}
	})
	left := pipe(from(0), over(impl.NkOnce, 0, 0, 0), over(impl.NkOnce, 1, 0, 0), from(1), both(impl.NkZip, 2, 3))
	right := pipe(from(0), over(impl.NkOnce, 0, 0, 0), over(impl.NkOnce, 1, 0, 0), from(1), both(impl.NkZip, 3, 2))
	if impl.DepthOf(tower(1)) != 1 || impl.DepthOf(tower(12)) != 12 || impl.DepthOf(left) != 4 || impl.DepthOf(right) != 4 {
		t.Error("DepthOf is wrong")
	}
}

// TestP9OrderChangesNothing: OrderPipe has the same list and pulls, and is in
// order already.
func TestP9OrderChangesNothing(t *testing.T) {
	eachPipe(t, 12, func(e impl.Pipe, src [][]int, _ dice) {
		o := impl.OrderPipe(e)
		if !samePipe(o, wantPart(e, len(e.Nodes)-1)) || !impl.ValidPipe(o) {
			t.Errorf("OrderPipe(%v) = %v", e, o)
		}
		if !samePipe(impl.OrderPipe(o), o) {
			t.Errorf("OrderPipe(%v) = %v is not in order", e, o)
		}
		list := impl.ListOf(e, src)
		if !slices.Equal(impl.ListOf(o, src), list) {
			t.Errorf("OrderPipe(%v) has another list than %v", e, list)
		}
		for _, k := range numbersOfPulls(len(list)) {
			if !slices.Equal(impl.FirstItems(o, src, k), impl.FirstItems(e, src, k)) || !samePulls(impl.PullsOf(o, src, k), impl.PullsOf(e, src, k)) {
				t.Errorf("%d pulls of OrderPipe(%v) give other items, or make other pulls", k, e)
			}
		}
	})
	want := pipe(from(0), over(impl.NkTake, 0, 4, 0), from(2), over(impl.NkMap, 2, 2, 3), both(impl.NkMerge, 1, 3))
	if o := impl.OrderPipe(tangled()); !samePipe(o, want) {
		t.Errorf("OrderPipe = %v", o)
	}
}

// TestP10PartOfTheEnd: PartOf the last node is OrderPipe, and of a node with
// one below it has one node more than PartOf that.
func TestP10PartOfTheEnd(t *testing.T) {
	eachPipe(t, 12, func(e impl.Pipe, _ [][]int, _ dice) {
		if part := impl.PartOf(e, len(e.Nodes)-1); !samePipe(part, impl.OrderPipe(e)) {
			t.Errorf("PartOf the end of %v = %v", e, part)
		}
		for i, n := range e.Nodes {
			part := impl.PartOf(e, i)
			if slices.Contains(kindsOfOne, n.Kind) && len(part.Nodes) != len(impl.PartOf(e, n.A).Nodes)+1 {
				t.Errorf("PartOf(%v, %d) = %v", e, i, part)
			}
		}
	})
}

// TestP11MovedSources: ListOf MoveSources is ListOf with the lists where the
// sources were moved from.
func TestP11MovedSources(t *testing.T) {
	eachPipe(t, 12, func(e impl.Pipe, src [][]int, d dice) {
		to := []int{d.IntN(3), d.IntN(3), d.IntN(3)}
		moved := impl.MoveSources(e, to)
		from := [][]int{src[to[0]], src[to[1]], src[to[2]]}
		if !impl.ValidPipe(moved) || !slices.Equal(impl.ListOf(moved, src), impl.ListOf(e, from)) {
			t.Errorf("MoveSources(%v, %v) = %v", e, to, moved)
		}
		want := impl.Pipe{Nodes: slices.Clone(e.Nodes)}
		for i, n := range e.Nodes {
			if n.Kind == impl.NkSource {
				want.Nodes[i].N = to[n.N]
			}
		}
		if !samePipe(moved, want) {
			t.Errorf("MoveSources(%v, %v) = %v", e, to, moved)
		}
	})
}

func TestMovedSourcesEdges(t *testing.T) {
	e := tangled()
	if moved := impl.MoveSources(e, []int{0, 1, 2}); !samePipe(moved, e) {
		t.Errorf("MoveSources to where they are = %v", moved)
	}
	if moved := impl.MoveSources(e, []int{1, 1, 1}); !slices.Equal(impl.SourcesOf(moved), []int{1}) {
		t.Errorf("MoveSources to one = %v", moved)
	}
	// A number for a source that the pipe does not have must be one, too.
	for _, to := range [][]int{nil, {}, {0, 1}, {0, 1, 2, 0}, {-1, 1, 2}, {0, -1, 2}, {0, 3, 2}, {0, 1, 3}, {0, 1, math.MaxInt}, {math.MinInt, 1, 2}} {
		if moved := impl.MoveSources(e, to); len(moved.Nodes) > 0 {
			t.Errorf("MoveSources(.., %v) = %v", to, moved)
		}
	}
}

// TestP12JoinedPipes: joined by NkChain two pipes have both lists, and joined
// by NkTurn as many items.
func TestP12JoinedPipes(t *testing.T) {
	eachPipe(t, 6, func(a impl.Pipe, src [][]int, d dice) {
		b := d.pipe(d.upTo(1, 5))
		listA, listB := impl.ListOf(a, src), impl.ListOf(b, src)
		chained, ok := impl.JoinPipes(a, b, impl.NkChain)
		if !ok || !slices.Equal(impl.ListOf(chained, src), slices.Concat(listA, listB)) {
			t.Errorf("JoinPipes(%v, %v, NkChain) = %v", a, b, chained)
		}
		turned, ok := impl.JoinPipes(a, b, impl.NkTurn)
		if !ok || impl.LengthOf(turned, src) != len(listA)+len(listB) {
			t.Errorf("JoinPipes(%v, %v, NkTurn) = %v", a, b, turned)
		}
		for _, kind := range kindsOfTwo {
			joined, ok := impl.JoinPipes(a, b, kind)
			end := len(joined.Nodes) - 1
			if !ok || !impl.ValidPipe(joined) || joined.Nodes[end] != both(kind, len(a.Nodes)-1, end-1) {
				t.Fatalf("JoinPipes(%v, %v, %d) = %v", a, b, kind, joined)
			}
			if !samePipe(joined, impl.OrderPipe(joined)) {
				t.Errorf("JoinPipes(%v, %v, %d) is not in order", a, b, kind)
			}
			if !samePipe(impl.PartOf(joined, len(a.Nodes)-1), impl.OrderPipe(a)) || !samePipe(impl.PartOf(joined, end-1), impl.OrderPipe(b)) {
				t.Errorf("JoinPipes(%v, %v, %d) has other parts", a, b, kind)
			}
		}
	})
}

func TestJoinedPipesEdges(t *testing.T) {
	for kind := -1; kind <= 14; kind++ {
		want := slices.Contains(kindsOfTwo, kind)
		if joined, ok := impl.JoinPipes(tower(1), tower(2), kind); ok != want || !ok && len(joined.Nodes) > 0 {
			t.Errorf("JoinPipes of the kind %d = %v, %v", kind, joined, ok)
		}
	}
	for a := 1; a <= 12; a++ {
		for b := 1; b <= 12; b++ {
			joined, ok := impl.JoinPipes(tower(a), tower(b), impl.NkZip)
			if ok != (a+b+1 <= 12) || ok && len(joined.Nodes) != a+b+1 || !ok && len(joined.Nodes) > 0 {
				t.Errorf("JoinPipes of %d and %d nodes = %v, %v", a, b, joined, ok)
			}
		}
	}
	joined, ok := impl.JoinPipes(tangled(), tower(1), impl.NkMerge)
	want := pipe(append(impl.OrderPipe(tangled()).Nodes, from(0), both(impl.NkMerge, 4, 5))...)
	if !ok || !samePipe(joined, want) {
		t.Errorf("JoinPipes = %v", joined)
	}
}

// TestP13PutOnIsTheEnd: PutOn has the node as its end, and PartOf the node
// below it is OrderPipe.
func TestP13PutOnIsTheEnd(t *testing.T) {
	eachPipe(t, 11, func(e impl.Pipe, _ [][]int, d dice) {
		for _, kind := range kindsOfOne {
			n, m := d.numbers(kind)
			more, ok := impl.PutOn(e, node(kind, d.upTo(-3, 14), d.upTo(-3, 14), n, m))
			end := len(e.Nodes)
			if !ok || !impl.ValidPipe(more) || len(more.Nodes) != end+1 || more.Nodes[end] != over(kind, end-1, n, m) {
				t.Fatalf("PutOn(%v, kind %d, %d, %d) = %v", e, kind, n, m, more)
			}
			if !slices.Equal(more.Nodes[:end], e.Nodes) || !samePipe(impl.PartOf(more, end-1), impl.OrderPipe(e)) {
				t.Errorf("PutOn(%v, kind %d, %d, %d) = %v", e, kind, n, m, more)
			}
		}
	})
}

func TestPutOnEdges(t *testing.T) {
	for kind := -1; kind <= 14; kind++ {
		good, bad := edgesOf(kind)
		if !slices.Contains(kindsOfOne, kind) {
			good, bad = nil, append(good, bad...)
		}
		for _, p := range good {
			if more, ok := impl.PutOn(tangled(), node(kind, 7, -9, p.n, p.m)); !ok || more.Nodes[5] != over(kind, 4, p.n, p.m) {
				t.Errorf("PutOn of the kind %d with %v = %v, %v", kind, p, more, ok)
			}
		}
		for _, p := range bad {
			for _, n := range []impl.Node{node(kind, -1, -1, p.n, p.m), node(kind, 4, -1, p.n, p.m), node(kind, 3, 4, p.n, p.m)} {
				if more, ok := impl.PutOn(tangled(), n); ok || len(more.Nodes) > 0 {
					t.Errorf("PutOn of %v = %v, %v", n, more, ok)
				}
			}
		}
	}
	for nodes := 1; nodes <= 12; nodes++ {
		more, ok := impl.PutOn(tower(nodes), over(impl.NkScan, 0, 0, 0))
		if ok != (nodes < 12) || ok && len(more.Nodes) != nodes+1 || !ok && len(more.Nodes) > 0 {
			t.Errorf("PutOn of %d nodes = %v, %v", nodes, more, ok)
		}
	}
}
