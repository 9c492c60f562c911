package tests

import (
	"math"
	"slices"
	"testing"

	"loop.example/pullstreams/impl"
)

// checkCompare checks how two pipes differ, in either order.
func checkCompare(t *testing.T, e, f impl.Pipe, src [][]int, want int) {
	t.Helper()
	if got := impl.ComparePipes(e, f, src); got != want {
		t.Errorf("ComparePipes(%v, %v, %v) = %d, not %d", e, f, src, got, want)
	}
	if got := impl.ComparePipes(f, e, src); got != want {
		t.Errorf("ComparePipes(%v, %v, %v) = %d, not %d", f, e, src, got, want)
	}
}

// checkWitness checks the first list for which two pipes differ, in either
// order; no want stands for none.
func checkWitness(t *testing.T, e, f impl.Pipe, how int, want ...[]int) {
	t.Helper()
	for _, pair := range [][2]impl.Pipe{{e, f}, {f, e}} {
		got, ok := impl.WitnessFor(pair[0], pair[1], how)
		if ok != (len(want) == 1) || ok && !slices.Equal(got, want[0]) || !ok && len(got) > 0 {
			t.Errorf("WitnessFor(%v, %v, %d) = %v, %v, not %v", pair[0], pair[1], how, got, ok, want)
		}
	}
}

// checkModel holds ComparePipes and WitnessFor against the model.
func checkModel(t *testing.T, e, f impl.Pipe, src [][]int) {
	t.Helper()
	checkCompare(t, e, f, src, wantCompare(e, f, src))
	for _, how := range []int{impl.CoList, impl.CoOther} {
		if list, ok := wantWitness(e, f, how); ok {
			checkWitness(t, e, f, how, list)
		} else {
			checkWitness(t, e, f, how)
		}
	}
}

// other returns a valid pipe that is much like one, or another one.
func (d dice) other(e impl.Pipe) impl.Pipe {
	i := d.IntN(len(e.Nodes))
	switch d.IntN(6) {
	case 0:
		return d.pipe(d.upTo(1, 4))
	case 1:
		return impl.MoveSources(e, []int{0, d.IntN(2), d.IntN(3)})
	case 2:
		return impl.NormalPipe(e)
	case 3:
		if more, ok := impl.PutOn(e, idleNodes()[d.IntN(5)]); ok {
			return more
		}
	case 4:
		if more, ok := impl.PutOn(e, over([]int{impl.NkTake, impl.NkDrop, impl.NkWhile, impl.NkSkip}[d.IntN(4)], 0, d.upTo(1, 4), 0)); ok {
			return more
		}
	}
	out := impl.Pipe{Nodes: slices.Clone(e.Nodes)}
	n := &out.Nodes[i]
	if slices.Contains(kindsOfTwo, n.Kind) {
		if d.IntN(2) == 0 {
			n.A, n.B = n.B, n.A
		} else {
			n.Kind = kindsOfTwo[d.IntN(4)]
		}
	} else {
		n.N, n.M = d.numbers(n.Kind)
	}
	return out
}

func TestComparePipes(t *testing.T) {
	src := [][]int{{1, 2, 3}, {10, 20, 30}, {}}
	source, zip := pipe(from(0)), two(impl.NkZip)
	swapped := pipe(from(1), from(0), both(impl.NkZip, 0, 1))
	for _, c := range []struct {
		e, f impl.Pipe
		src  [][]int
		want int
	}{
		{source, source, src, impl.CoSame},
		{source, source, [][]int{{}, {}, {}}, impl.CoSame},
		{source, one(impl.NkMap, 1, 0), src, impl.CoSame},
		{source, one(impl.NkMap, 1, 1), src, impl.CoOther},
		{tangled(), impl.OrderPipe(tangled()), src, impl.CoSame},
		// Of lists that differ by their length alone one is a beginning of the other one.
		{source, one(impl.NkTake, 2, 0), src, impl.CoOther},
		{source, one(impl.NkTake, 0, 0), src, impl.CoOther},
		{source, pipe(from(2)), src, impl.CoOther},
		// The lists are as long, but differ by an item.
		{source, one(impl.NkScan, 0, 0), src, impl.CoOther},
		{source, pipe(from(1)), src, impl.CoOther},
		// Just the pull that ends the pipe differs.
		{source, one(impl.NkTake, 3, 0), src, impl.CoList},
		{source, one(impl.NkTake, 4, 0), src, impl.CoSame},
		{source, one(impl.NkWhile, 4, 0), src, impl.CoSame},
		{source, one(impl.NkWhile, 99, 0), [][]int{{1, 99}, {}, {}}, impl.CoOther},
		{one(impl.NkTake, 1, 0), one(impl.NkWhile, 2, 0), src, impl.CoList},
		{one(impl.NkTake, 0, 0), one(impl.NkWhile, 0, 0), src, impl.CoList},
		{one(impl.NkTake, 0, 0), pipe(from(2)), src, impl.CoList},
		{one(impl.NkTake, 0, 0), pipe(from(2), over(impl.NkTake, 0, 0, 0)), src, impl.CoSame},
		// An item or an end of another source.
		{source, pipe(from(1)), [][]int{{1, 2}, {1, 2}, {}}, impl.CoList},
		{source, pipe(from(1)), [][]int{{}, {}, {}}, impl.CoList},
		// The lists have no items, but the pulls differ by what is looked at.
		{one(impl.NkWhile, 0, 0), one(impl.NkDrop, 30, 0), src, impl.CoList},
		{one(impl.NkSkip, 4, 0), one(impl.NkDrop, 30, 0), src, impl.CoSame},
		// The same pulls, but another order of them.
		{zip, swapped, src, impl.CoList},
		{zip, swapped, [][]int{{1}, {1}, {}}, impl.CoList},
		{zip, swapped, [][]int{{}, {}, {}}, impl.CoList},
		{twin(impl.NkZip), twin(impl.NkZip), src, impl.CoSame},
		// The same pulls in the same order, but at another number of pulls.
		{source, one(impl.NkBatch, 2, 0), [][]int{{5}, {}, {}}, impl.CoList},
		{source, one(impl.NkBatch, 2, 0), [][]int{{}, {}, {}}, impl.CoSame},
		{source, one(impl.NkBatch, 2, 0), [][]int{{5, 0}, {}, {}}, impl.CoOther},
		{one(impl.NkBatch, 12, 0), one(impl.NkBatch, 13, 0), [][]int{fullSource(), {}, {}}, impl.CoList},
		{one(impl.NkBatch, 13, 0), one(impl.NkBatch, 14, 0), [][]int{fullSource(), {}, {}}, impl.CoSame},
		// Other pulls at the first item, and the same ones then.
		{one(impl.NkDrop, 1, 0), one(impl.NkSkip, 1, 0), [][]int{{0, 1, 2}, {}, {}}, impl.CoSame},
		{one(impl.NkDrop, 1, 0), one(impl.NkSkip, 1, 0), [][]int{{0, 0, 2}, {}, {}}, impl.CoOther},
		{two(impl.NkChain), two(impl.NkMerge), [][]int{{1, 2}, {}, {}}, impl.CoList},
		{two(impl.NkChain), two(impl.NkTurn), [][]int{{}, {3, 4}, {}}, impl.CoSame},
		{two(impl.NkChain), two(impl.NkTurn), [][]int{{3}, {3, 3}, {}}, impl.CoList},
		{two(impl.NkChain), two(impl.NkTurn), [][]int{{3}, {3}, {}}, impl.CoList},
		{two(impl.NkChain), two(impl.NkMerge), [][]int{{1, 2}, {1, 3}, {}}, impl.CoOther},
	} {
		checkCompare(t, c.e, c.f, c.src, c.want)
		checkModel(t, c.e, c.f, c.src)
	}
}

// TestCompareLongPipes: the pull behind as many items as there can be differs,
// or just the last one of them.
func TestCompareLongPipes(t *testing.T) {
	full := [][]int{fullSource(), fullSource(), fullSource()}
	var chain, taken impl.Pipe
	for i := range 6 {
		chain.Nodes = append(chain.Nodes, from(i%3))
		if i > 0 {
			chain.Nodes = append(chain.Nodes, both(impl.NkChain, 2*i-2, 2*i-1))
		}
	}
	taken.Nodes = append(slices.Clone(chain.Nodes[:10]), over(impl.NkTake, 9, 12, 0), both(impl.NkChain, 8, 10))
	checkCompare(t, chain, taken, full, impl.CoList)
	taken.Nodes[10].N = 13
	checkCompare(t, chain, taken, full, impl.CoSame)
	taken.Nodes[10].N = 11
	checkCompare(t, chain, taken, full, impl.CoOther)
	other := slices.Clone(chain.Nodes)
	other[9].N = 1
	checkCompare(t, chain, impl.Pipe{Nodes: other}, full, impl.CoList)
	e, src := longest()
	checkCompare(t, e, e, src, impl.CoSame)
	checkCompare(t, e, impl.MoveSources(e, []int{2, 1, 0}), src, impl.CoList)
}

func TestCompareAllPipes(t *testing.T) {
	seen := make([]int, 3)
	eachRuled(t, func(e impl.Pipe, src [][]int, d dice) {
		for range 3 {
			f := d.other(e)
			want := wantCompare(e, f, src)
			seen[want]++
			checkCompare(t, e, f, src, want)
		}
	})
	eachPipe(t, 12, func(e impl.Pipe, src [][]int, d dice) {
		f := d.other(e)
		want := wantCompare(e, f, src)
		seen[want]++
		checkCompare(t, e, f, src, want)
	})
	if slices.Min(seen) < 1000 {
		t.Errorf("there were only so many of the differences: %v", seen)
	}
}

// TestP42PipesAreLikeThemselves: ComparePipes is the same the other way round,
// and CoOther exactly if the lists differ.
func TestP42PipesAreLikeThemselves(t *testing.T) {
	eachRuled(t, func(e impl.Pipe, src [][]int, d dice) {
		f := d.other(e)
		got := impl.ComparePipes(e, f, src)
		if back := impl.ComparePipes(f, e, src); got != back || got < impl.CoSame || got > impl.CoOther {
			t.Errorf("ComparePipes(%v, %v, %v) = %d, and %d the other way round", e, f, src, got, back)
		}
		if (got == impl.CoOther) == slices.Equal(impl.ListOf(e, src), impl.ListOf(f, src)) {
			t.Errorf("ComparePipes(%v, %v, %v) = %d", e, f, src, got)
		}
		for _, same := range []impl.Pipe{e, impl.OrderPipe(e), impl.NormalPipe(e)} {
			if got := impl.ComparePipes(e, same, src); got != impl.CoSame {
				t.Errorf("ComparePipes(%v, %v, %v) = %d", e, same, src, got)
			}
		}
	})
}

func TestWitnessFor(t *testing.T) {
	source, drop := pipe(from(0)), one(impl.NkDrop, 1, 0)
	take := func(n int) impl.Pipe { return one(impl.NkTake, n, 0) }
	// The shorter list is first, and of equal length the one that is less where they differ first.
	checkWitness(t, source, drop, impl.CoOther, []int{0})
	checkWitness(t, source, one(impl.NkMap, 2, 0), impl.CoOther, []int{1})
	checkWitness(t, source, one(impl.NkWhile, 2, 0), impl.CoOther, []int{2})
	checkWitness(t, source, one(impl.NkOnce, 0, 0), impl.CoOther, []int{0, 0})
	checkWitness(t, source, one(impl.NkScan, 0, 0), impl.CoOther, []int{1, 0})
	checkWitness(t, one(impl.NkBatch, 2, 0), stack(up(impl.NkDrop, 1, 0), up(impl.NkScan, 0, 0)), impl.CoOther, []int{0})
	checkWitness(t, stack(up(impl.NkScan, 0, 0), up(impl.NkSkip, 4, 0)), stack(up(impl.NkSkip, 99, 0)), impl.CoOther, []int{2, 2})
	checkWitness(t, stack(up(impl.NkScan, 0, 0), up(impl.NkSkip, 3, 0)), stack(up(impl.NkSkip, 99, 0)), impl.CoOther, []int{1, 2})
	checkWitness(t, stack(up(impl.NkScan, 0, 0), up(impl.NkSkip, 6, 0)), stack(up(impl.NkSkip, 99, 0)), impl.CoOther, []int{2, 2, 2})
	checkWitness(t, stack(up(impl.NkScan, 0, 0), up(impl.NkSkip, 5, 0)), stack(up(impl.NkSkip, 99, 0)), impl.CoOther, []int{1, 2, 2})
	checkWitness(t, stack(up(impl.NkScan, 0, 0), up(impl.NkSkip, 7, 0)), stack(up(impl.NkSkip, 99, 0)), impl.CoOther)
	// Pipes that differ by their pulls alone.
	checkWitness(t, take(0), one(impl.NkWhile, 0, 0), impl.CoList, nil)
	checkWitness(t, take(0), one(impl.NkWhile, 0, 0), impl.CoOther)
	checkWitness(t, pipe(from(1)), pipe(from(2)), impl.CoList, nil)
	checkWitness(t, pipe(from(1)), pipe(from(2)), impl.CoOther)
	checkWitness(t, two(impl.NkZip), pipe(from(1), from(0), both(impl.NkZip, 0, 1)), impl.CoList, nil)
	checkWitness(t, two(impl.NkZip), pipe(from(1), from(0), both(impl.NkZip, 0, 1)), impl.CoOther)
	checkWitness(t, source, take(3), impl.CoList, []int{0, 0, 0})
	checkWitness(t, source, take(3), impl.CoOther)
	checkWitness(t, take(1), one(impl.NkWhile, 2, 0), impl.CoOther, []int{2})
	// A list for which the lists differ is one for pulls, too, if it is the first one.
	checkWitness(t, source, drop, impl.CoList, []int{0})
	checkWitness(t, take(1), one(impl.NkWhile, 2, 0), impl.CoList, []int{0})
	checkWitness(t, source, take(2), impl.CoList, []int{0, 0})
	checkWitness(t, source, take(2), impl.CoOther, []int{0, 0, 0})
	checkWitness(t, source, take(0), impl.CoList, nil)
	checkWitness(t, source, take(0), impl.CoOther, []int{0})
	// Pipes that differ only for lists that are long or great enough.
	for _, how := range []int{impl.CoList, impl.CoOther} {
		checkWitness(t, source, take(4), how)
		checkWitness(t, source, one(impl.NkWhile, 3, 0), how)
		checkWitness(t, one(impl.NkSkip, 3, 0), one(impl.NkDrop, 30, 0), how)
		checkWitness(t, one(impl.NkDrop, 3, 0), one(impl.NkDrop, 4, 0), how)
		checkWitness(t, one(impl.NkBatch, 4, 0), one(impl.NkBatch, 5, 0), how)
		checkWitness(t, one(impl.NkFilter, 3, 0), one(impl.NkFilter, 4, 0), how)
		checkWitness(t, source, source, how)
		checkWitness(t, source, one(impl.NkMap, 1, 0), how)
	}
	checkWitness(t, one(impl.NkDrop, 2, 0), one(impl.NkDrop, 3, 0), impl.CoOther, []int{0, 0, 0})
	checkWitness(t, one(impl.NkBatch, 3, 0), one(impl.NkBatch, 4, 0), impl.CoList, []int{0, 0, 0})
	checkWitness(t, one(impl.NkSkip, 2, 0), one(impl.NkDrop, 30, 0), impl.CoOther, []int{2})
	checkWitness(t, one(impl.NkFilter, 3, 0), one(impl.NkFilter, 2, 0), impl.CoOther, []int{2})
	// Just the source 0 has items, so that what others would tell is not seen.
	checkWitness(t, pipe(from(1)), pipe(from(1), over(impl.NkDrop, 0, 1, 0)), impl.CoList)
	checkWitness(t, pipe(from(2)), pipe(from(2), over(impl.NkMap, 0, 2, 0)), impl.CoOther)
	checkWitness(t, two(impl.NkChain), source, impl.CoOther)
	checkWitness(t, two(impl.NkZip), pipe(from(0), over(impl.NkTake, 0, 0, 0)), impl.CoOther)
}

func TestWitnessForAllPipes(t *testing.T) {
	found, none := 0, 0
	d := newDice(43)
	for round := range 1500 {
		e := impl.MoveSources(d.ruled(1+round%12), []int{0, 0, 1})
		f := d.other(e)
		checkModel(t, e, f, d.src())
		_, ok := impl.WitnessFor(e, f, impl.CoOther)
		found += yes(ok)
		none += yes(!ok)
		if t.Failed() {
			return
		}
	}
	if found < 300 || none < 300 {
		t.Errorf("only %d pairs had a witness, and %d had none", found, none)
	}
}

// TestP43WitnessesTellPipesApart: with WitnessFor as the source 0 the pipes
// differ as much as is told, and without one they do not for the empty list.
func TestP43WitnessesTellPipesApart(t *testing.T) {
	d := newDice(44)
	for round := range 1500 {
		e := impl.MoveSources(d.ruled(1+round%12), []int{0, 0, 1})
		f := d.other(e)
		for _, how := range []int{impl.CoList, impl.CoOther} {
			list, ok := impl.WitnessFor(e, f, how)
			if len(list) > 3 || slices.ContainsFunc(list, func(x int) bool { return x < 0 || x > 2 }) {
				t.Fatalf("WitnessFor(%v, %v, %d) = %v", e, f, how, list)
			}
			if got := impl.ComparePipes(e, f, [][]int{list, {}, {}}); ok != (got >= how) {
				t.Fatalf("WitnessFor(%v, %v, %d) = %v, %v, but ComparePipes = %d", e, f, how, list, ok, got)
			}
		}
	}
}

func TestComparesOfOtherArguments(t *testing.T) {
	src := [][]int{{1, 2, 3}, {10, 20}, {5}}
	good := []impl.Pipe{tower(1), one(impl.NkTake, 0, 0), pipe(from(2)), tangled()}
	for _, bad := range badPipes() {
		checkCompare(t, bad, bad, src, -1)
		checkWitness(t, bad, bad, impl.CoList)
		for _, e := range good {
			checkCompare(t, bad, e, src, -1)
			checkWitness(t, bad, e, impl.CoList)
			checkWitness(t, bad, e, impl.CoOther)
		}
	}
	for _, bad := range badSources() {
		for _, e := range good {
			checkCompare(t, e, e, bad, -1)
			checkCompare(t, e, tower(2), bad, -1)
		}
	}
	for _, how := range []int{impl.CoSame, -1, 3, math.MinInt, math.MaxInt} {
		checkWitness(t, tower(1), tower(1), how)
		checkWitness(t, tower(1), tower(2), how)
		checkWitness(t, pipe(from(1)), pipe(from(2)), how)
	}
}
