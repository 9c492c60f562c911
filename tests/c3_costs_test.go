package tests

import (
	"math"
	"slices"
	"testing"

	"loop.example/pullstreams/impl"
)

// twin returns a pipe of one node over two nodes of the source 0.
func twin(kind int) impl.Pipe {
	return pipe(from(0), from(0), both(kind, 0, 1))
}

// checkCostsAfter checks all functions that are given a number of pulls.
func checkCostsAfter(t *testing.T, e impl.Pipe, src [][]int, k int, want costs) {
	t.Helper()
	if got := impl.CountsAfter(e, src, k); !slices.Equal(got, want.given) {
		t.Errorf("CountsAfter(%v, %v, %d) = %v, not %v", e, src, k, got, want.given)
	}
	if got := impl.TotalPulls(e, src, k); got != want.total {
		t.Errorf("TotalPulls(%v, %v, %d) = %d, not %d", e, src, k, got, want.total)
	}
	if got := impl.ReachedBy(e, src, k); !slices.Equal(got, want.reached) {
		t.Errorf("ReachedBy(%v, %v, %d) = %v, not %v", e, src, k, got, want.reached)
	}
	for s := range 3 {
		if got := impl.SeesEnd(e, src, s, k); got != want.ended[s] {
			t.Errorf("SeesEnd(%v, %v, %d, %d) = %v", e, src, s, k, got)
		}
	}
}

// checkTable checks PullTable, and LongestWait.
func checkTable(t *testing.T, e impl.Pipe, src [][]int, table []int, wait int) {
	t.Helper()
	if got := impl.PullTable(e, src); !slices.Equal(got, table) {
		t.Errorf("PullTable(%v, %v) = %v, not %v", e, src, got, table)
	}
	if got := impl.LongestWait(e, src); got != wait {
		t.Errorf("LongestWait(%v, %v) = %d, not %d", e, src, got, wait)
	}
}

// checkAllCosts holds all functions that tell costs against the model.
func checkAllCosts(t *testing.T, e impl.Pipe, src [][]int) {
	t.Helper()
	answers := wantAnswers(e, len(e.Nodes)-1, src)
	for _, k := range numbersOfPulls(len(answers)) {
		checkCostsAfter(t, e, src, k, wantCosts(pullsOf(answers[:min(k, len(answers))])))
	}
	checkTable(t, e, src, wantTable(answers), wantWait(answers))
	left := impl.LeftOver(e, src)
	if len(left) != 3 {
		t.Fatalf("LeftOver(%v, %v) = %v", e, src, left)
	}
	for s := range 3 {
		never := 0
		for i := -1; i <= 12; i++ {
			want := wantFor(answers, s, i)
			if got := impl.PullFor(e, src, s, i); got != want {
				t.Errorf("PullFor(%v, %v, %d, %d) = %d, not %d", e, src, s, i, got, want)
			}
			if want < 0 && i >= 0 && i < len(src[s]) {
				never++
			}
		}
		if left[s] != never {
			t.Errorf("LeftOver(%v, %v) = %v, not %d of the source %d", e, src, left, never, s)
		}
	}
}

func TestCostsOfAllPipes(t *testing.T) {
	eachPipe(t, 12, func(e impl.Pipe, src [][]int, _ dice) {
		checkAllCosts(t, e, src)
	})
}

// TestCostsOfOneSource: all nodes of NkSource are of one source.
func TestCostsOfOneSource(t *testing.T) {
	eachPipe(t, 11, func(e impl.Pipe, src [][]int, d dice) {
		s := d.IntN(3)
		checkAllCosts(t, impl.MoveSources(e, []int{s, s, s}), src)
	})
}

func TestCostsOfSmallLists(t *testing.T) {
	for _, list := range smallLists(4) {
		src := [][]int{list, nil, nil}
		for _, kind := range kindsOfOne {
			for n := range 6 {
				if e := one(kind, n, 0); wantValid(e) {
					checkAllCosts(t, e, src)
				}
			}
		}
		for _, kind := range kindsOfTwo {
			checkAllCosts(t, twin(kind), src)
		}
	}
	for _, a := range smallLists(2) {
		for _, b := range smallLists(3) {
			for _, kind := range kindsOfTwo {
				checkAllCosts(t, two(kind), [][]int{a, b, nil})
			}
		}
	}
}

func TestTables(t *testing.T) {
	src := [][]int{{1, 2, 3, 1}, {10, 20}, {}}
	for _, c := range []struct {
		e     impl.Pipe
		table []int
		wait  int
	}{
		{pipe(from(0)), []int{0, 1, 2, 3, 4, 5}, 1},
		{pipe(from(2)), []int{0, 1}, 1},
		{one(impl.NkTake, 0, 0), []int{0, 0}, 0},
		{one(impl.NkTake, 1, 0), []int{0, 1, 1}, 1},
		{one(impl.NkTake, 4, 0), []int{0, 1, 2, 3, 4, 4}, 1},
		{one(impl.NkTake, 5, 0), []int{0, 1, 2, 3, 4, 5}, 1},
		{one(impl.NkDrop, 3, 0), []int{0, 4, 5}, 4},
		{one(impl.NkDrop, 4, 0), []int{0, 5}, 5},
		{one(impl.NkDrop, 30, 0), []int{0, 5}, 5},
		{one(impl.NkWhile, 3, 0), []int{0, 1, 2, 3}, 1},
		{one(impl.NkSkip, 3, 0), []int{0, 3, 4, 5}, 3},
		{one(impl.NkFilter, 3, 0), []int{0, 3, 5}, 3},
		{one(impl.NkFilter, 9, 0), []int{0, 5}, 5},
		{one(impl.NkFilter, 2, 0), []int{0, 2, 5}, 3}, // it waits most for its end
		{one(impl.NkBatch, 3, 0), []int{0, 3, 5, 5}, 3},
		{one(impl.NkBatch, 30, 0), []int{0, 5, 5}, 5},
		{two(impl.NkZip), []int{0, 2, 4, 6}, 2},
		{two(impl.NkChain), []int{0, 1, 2, 3, 4, 6, 7, 8}, 2},
		{two(impl.NkMerge), []int{0, 2, 3, 4, 5, 6, 7, 8}, 2},
		{twin(impl.NkZip), []int{0, 2, 4, 6, 8, 9}, 2},
		{pipe(from(2), from(2), both(impl.NkMerge, 0, 1)), []int{0, 2}, 2},
		{pipe(from(2), from(1), both(impl.NkTurn, 0, 1)), []int{0, 2, 3, 4}, 2},
	} {
		checkTable(t, c.e, src, c.table, c.wait)
	}
}

// TestItemsThatAreNeverGiven: an item may be given to a node though it does not
// come to the end, and only one that is given to none is left over.
func TestItemsThatAreNeverGiven(t *testing.T) {
	src := [][]int{{1, 2, 3, 1}, {10, 20}, {5}}
	for _, c := range []struct {
		e    impl.Pipe
		left []int
		pull []int // for the items of the source 0
	}{
		{pipe(from(0)), []int{0, 2, 1}, []int{1, 2, 3, 4}},
		{pipe(from(2)), []int{4, 2, 0}, []int{-1, -1, -1, -1}},
		{one(impl.NkTake, 0, 0), []int{4, 2, 1}, []int{-1, -1, -1, -1}},
		{one(impl.NkTake, 3, 0), []int{1, 2, 1}, []int{1, 2, 3, -1}},
		{one(impl.NkTake, 4, 0), []int{0, 2, 1}, []int{1, 2, 3, 4}},
		{one(impl.NkDrop, 3, 0), []int{0, 2, 1}, []int{1, 1, 1, 1}},
		{one(impl.NkDrop, 1, 0), []int{0, 2, 1}, []int{1, 1, 2, 3}},
		{one(impl.NkFilter, 9, 0), []int{0, 2, 1}, []int{1, 1, 1, 1}},
		{one(impl.NkWhile, 3, 0), []int{1, 2, 1}, []int{1, 2, 3, -1}}, // the item 2 ends it
		{one(impl.NkWhile, 1, 0), []int{3, 2, 1}, []int{1, -1, -1, -1}},
		{one(impl.NkBatch, 3, 0), []int{0, 2, 1}, []int{1, 1, 1, 2}},
		{two(impl.NkZip), []int{1, 0, 1}, []int{1, 2, 3, -1}}, // the item 2 finds none beside it
		{pipe(from(1), from(0), both(impl.NkZip, 0, 1)), []int{2, 0, 1}, []int{1, 2, -1, -1}},
		{pipe(from(2), from(0), both(impl.NkMerge, 0, 1)), []int{0, 2, 0}, []int{1, 2, 3, 4}},
		{pipe(from(2), from(0), both(impl.NkChain, 0, 1)), []int{0, 2, 0}, []int{2, 3, 4, 5}},
		{pipe(from(0), over(impl.NkTake, 0, 1, 0), from(0), over(impl.NkTake, 2, 3, 0), both(impl.NkChain, 1, 3)), []int{1, 2, 1}, []int{1, 3, 4, -1}},
	} {
		if got := impl.LeftOver(c.e, src); !slices.Equal(got, c.left) {
			t.Errorf("LeftOver(%v, %v) = %v, not %v", c.e, src, got, c.left)
		}
		for i, want := range c.pull {
			if got := impl.PullFor(c.e, src, 0, i); got != want {
				t.Errorf("PullFor(%v, %v, 0, %d) = %d, not %d", c.e, src, i, got, want)
			}
		}
	}
}

// TestOneSourceInSeveralNodes: CountsAfter counts all nodes of a source, and
// ReachedBy the one that is further.
func TestOneSourceInSeveralNodes(t *testing.T) {
	src := [][]int{{1, 2, 3}, {10}, {}}
	ahead := pipe(from(0), from(0), over(impl.NkDrop, 1, 1, 0), both(impl.NkZip, 0, 2))
	behind := pipe(from(0), over(impl.NkDrop, 0, 1, 0), from(0), both(impl.NkZip, 1, 2))
	limited := pipe(from(0), from(0), over(impl.NkTake, 1, 1, 0), both(impl.NkChain, 0, 2))
	none, end := []bool{false, false, false}, []bool{true, false, false}
	for _, c := range []struct {
		e    impl.Pipe
		k    int
		want costs
	}{
		{twin(impl.NkZip), 0, costs{0, []int{0, 0, 0}, []int{0, 0, 0}, none}},
		{twin(impl.NkZip), 1, costs{2, []int{2, 0, 0}, []int{1, 0, 0}, none}},
		{twin(impl.NkZip), 3, costs{6, []int{6, 0, 0}, []int{3, 0, 0}, none}},
		{twin(impl.NkZip), 4, costs{7, []int{6, 0, 0}, []int{3, 0, 0}, end}},
		{twin(impl.NkZip), 200, costs{7, []int{6, 0, 0}, []int{3, 0, 0}, end}},
		{twin(impl.NkMerge), 1, costs{2, []int{2, 0, 0}, []int{1, 0, 0}, none}},
		{twin(impl.NkMerge), 2, costs{3, []int{3, 0, 0}, []int{2, 0, 0}, none}},
		{twin(impl.NkChain), 4, costs{5, []int{4, 0, 0}, []int{3, 0, 0}, end}},
		{twin(impl.NkChain), 7, costs{8, []int{6, 0, 0}, []int{3, 0, 0}, end}},
		{ahead, 1, costs{3, []int{3, 0, 0}, []int{2, 0, 0}, none}},
		{ahead, 2, costs{5, []int{5, 0, 0}, []int{3, 0, 0}, none}},
		{ahead, 3, costs{7, []int{6, 0, 0}, []int{3, 0, 0}, end}},
		{behind, 1, costs{3, []int{3, 0, 0}, []int{2, 0, 0}, none}},
		{behind, 3, costs{6, []int{5, 0, 0}, []int{3, 0, 0}, end}},
		{limited, 3, costs{3, []int{3, 0, 0}, []int{3, 0, 0}, none}},
		{limited, 4, costs{5, []int{4, 0, 0}, []int{3, 0, 0}, end}},
		{limited, 5, costs{5, []int{4, 0, 0}, []int{3, 0, 0}, end}},
	} {
		checkCostsAfter(t, c.e, src, c.k, c.want)
	}
	// The first one of the nodes counts.
	if got := impl.PullFor(ahead, src, 0, 1); got != 1 {
		t.Errorf("PullFor the item 1 = %d", got)
	}
	if got := impl.PullFor(twin(impl.NkChain), src, 0, 0); got != 1 {
		t.Errorf("PullFor the item 0 = %d", got)
	}
}

// TestCostsOfListsWithoutItems: their ends are seen, and nothing else.
func TestCostsOfListsWithoutItems(t *testing.T) {
	src := [][]int{{}, nil, {}}
	zero := []int{0, 0, 0}
	for _, c := range []struct {
		e     impl.Pipe
		ended []bool
		wait  int
	}{
		{pipe(from(1)), []bool{false, true, false}, 1},
		{one(impl.NkTake, 0, 0), []bool{false, false, false}, 0},
		{one(impl.NkTake, 1, 0), []bool{true, false, false}, 1},
		{one(impl.NkDrop, 9, 0), []bool{true, false, false}, 1},
		{two(impl.NkZip), []bool{true, false, false}, 1},
		{two(impl.NkChain), []bool{true, true, false}, 2},
		{two(impl.NkMerge), []bool{true, true, false}, 2},
		{two(impl.NkTurn), []bool{true, true, false}, 2},
		{twin(impl.NkTurn), []bool{true, false, false}, 2},
	} {
		checkCostsAfter(t, c.e, src, 0, costs{0, zero, zero, make([]bool, 3)})
		for _, k := range []int{1, 2, 199, 200} {
			checkCostsAfter(t, c.e, src, k, costs{c.wait, zero, zero, c.ended})
		}
		checkTable(t, c.e, src, []int{0, c.wait}, c.wait)
		if got := impl.LeftOver(c.e, src); !slices.Equal(got, zero) {
			t.Errorf("LeftOver(%v, %v) = %v", c.e, src, got)
		}
		if got := impl.PullFor(c.e, src, 0, 0); got != -1 {
			t.Errorf("PullFor(%v, %v, 0, 0) = %d", c.e, src, got)
		}
	}
}

// TestGreatestCosts has as many items, pulls, and pulls for one pull, as there
// can be.
func TestGreatestCosts(t *testing.T) {
	e, src := longest()
	checkAllCosts(t, e, src)
	ended := []bool{true, true, true}
	checkCostsAfter(t, e, src, 200, costs{78, []int{36, 24, 12}, []int{12, 12, 12}, ended})
	if got := impl.PullTable(e, src); len(got) != 74 || got[73] != 78 {
		t.Errorf("PullTable of the longest pipe = %v", got)
	}
	sum, _ := impl.PutOn(e, over(impl.NkFilter, 0, 30, 29))
	checkAllCosts(t, sum, src)
	checkTable(t, sum, src, []int{0, 78}, 78)
	for _, n := range []int{11, 12} {
		items := fullSource()[:n]
		checkCostsAfter(t, tower(12), [][]int{items, nil, nil}, n, costs{n, []int{n, 0, 0}, []int{n, 0, 0}, make([]bool, 3)})
		checkCostsAfter(t, tower(12), [][]int{items, nil, nil}, n+1, costs{n + 1, []int{n, 0, 0}, []int{n, 0, 0}, []bool{true, false, false}})
	}
}

// TestP25CountsAreOfPulls: CountsAfter together are all PullsOf that give an
// item, and none of them falls with more pulls.
func TestP25CountsAreOfPulls(t *testing.T) {
	eachPipe(t, 12, func(e impl.Pipe, src [][]int, _ dice) {
		before := []int{0, 0, 0}
		for _, k := range numbersOfPulls(impl.LengthOf(e, src)) {
			counts := impl.CountsAfter(e, src, k)
			if len(counts) != 3 {
				t.Fatalf("CountsAfter(%v, %v, %d) = %v", e, src, k, counts)
			}
			together := 0
			for s, n := range counts {
				together += n
				if n < before[s] {
					t.Errorf("CountsAfter(%v, %v, %d) = %v behind %v", e, src, k, counts, before)
				}
			}
			items := 0
			for _, p := range impl.PullsOf(e, src, k) {
				items += yes(p.Item >= 0)
			}
			if together != items {
				t.Errorf("CountsAfter(%v, %v, %d) = %v of %d items", e, src, k, counts, items)
			}
			before = counts
		}
	})
}

// TestP26AllPullsAreCounted: TotalPulls is the number of PullsOf, and no
// greater than the items of all source nodes, and one end of each, together.
func TestP26AllPullsAreCounted(t *testing.T) {
	eachPipe(t, 12, func(e impl.Pipe, src [][]int, _ dice) {
		most := 0
		for _, n := range e.Nodes {
			if n.Kind == impl.NkSource {
				most += len(src[n.N]) + 1
			}
		}
		for _, k := range numbersOfPulls(impl.LengthOf(e, src)) {
			got := impl.TotalPulls(e, src, k)
			if got != len(impl.PullsOf(e, src, k)) || got > most {
				t.Errorf("TotalPulls(%v, %v, %d) = %d", e, src, k, got)
			}
		}
	})
}

// TestP29TablesTellAllCosts: PullTable has TotalPulls for each number of pulls,
// does not fall, and has 2 numbers more than the list items.
func TestP29TablesTellAllCosts(t *testing.T) {
	eachPipe(t, 12, func(e impl.Pipe, src [][]int, _ dice) {
		table := impl.PullTable(e, src)
		if len(table) != impl.LengthOf(e, src)+2 || !slices.IsSorted(table) || !impl.IsEnded(e, src, len(table)-1) {
			t.Errorf("PullTable(%v, %v) = %v", e, src, table)
		}
		for k, n := range table {
			if n != impl.TotalPulls(e, src, k) {
				t.Errorf("PullTable(%v, %v) = %v has no TotalPulls at %d", e, src, table, k)
			}
		}
	})
}

// TestP30NoPullWaitsLonger: no two numbers of PullTable next to each other
// differ by more than LongestWait, and two do by it, or all are equal.
func TestP30NoPullWaitsLonger(t *testing.T) {
	eachPipe(t, 12, func(e impl.Pipe, src [][]int, _ dice) {
		table, wait := impl.PullTable(e, src), impl.LongestWait(e, src)
		var steps []int
		for k := 1; k < len(table); k++ {
			steps = append(steps, table[k]-table[k-1])
		}
		if len(steps) == 0 || slices.Max(steps) != wait {
			t.Errorf("LongestWait(%v, %v) = %d of %v", e, src, wait, table)
		}
	})
}

// TestP31ItemsAreGivenAtOnePull: an item is reached by PullFor pulls, and not
// by one less; and one that is never given is left over.
func TestP31ItemsAreGivenAtOnePull(t *testing.T) {
	given, never := 0, 0
	eachPipe(t, 12, func(e impl.Pipe, src [][]int, _ dice) {
		left := impl.LeftOver(e, src)
		for s, items := range src {
			for i := range items {
				k := impl.PullFor(e, src, s, i)
				if k == -1 {
					never++
					if i < len(items)-left[s] {
						t.Errorf("PullFor(%v, %v, %d, %d) = -1, but LeftOver is %v", e, src, s, i, left)
					}
					continue
				}
				given++
				if k < 1 || impl.ReachedBy(e, src, k)[s] <= i || impl.ReachedBy(e, src, k-1)[s] > i || i >= len(items)-left[s] {
					t.Errorf("PullFor(%v, %v, %d, %d) = %d", e, src, s, i, k)
				}
			}
		}
	})
	if given < 1000 || never < 1000 {
		t.Errorf("only %d items were given, and %d were not", given, never)
	}
}

// TestP32WhatIsLeftIsNotReached: LeftOver and ReachedBy of all pulls are
// together the items of each source.
func TestP32WhatIsLeftIsNotReached(t *testing.T) {
	eachPipe(t, 12, func(e impl.Pipe, src [][]int, _ dice) {
		left := impl.LeftOver(e, src)
		for _, k := range []int{impl.LengthOf(e, src) + 1, 100, 199, 200} {
			reached := impl.ReachedBy(e, src, k)
			for s, items := range src {
				if left[s]+reached[s] != len(items) || left[s] < 0 {
					t.Errorf("LeftOver(%v, %v) = %v, but %v are reached", e, src, left, reached)
				}
			}
		}
	})
}

// TestP33EndsAreSeenAfterAllItems: where SeesEnd holds all items of the source
// are reached, and more pulls see it, too.
func TestP33EndsAreSeenAfterAllItems(t *testing.T) {
	seen, hidden := 0, 0
	eachPipe(t, 12, func(e impl.Pipe, src [][]int, _ dice) {
		for s, items := range src {
			before := false
			for _, k := range numbersOfPulls(impl.LengthOf(e, src)) {
				now := impl.SeesEnd(e, src, s, k)
				reached := impl.ReachedBy(e, src, k)[s]
				if before && !now || now && reached != len(items) {
					t.Errorf("SeesEnd(%v, %v, %d, %d) = %v with %d items", e, src, s, k, now, reached)
				}
				if !now && reached == len(items) {
					hidden++
				}
				seen += yes(now)
				before = now
			}
		}
	})
	if seen < 1000 || hidden < 1000 {
		t.Errorf("only %d ends were seen, and %d were not behind all items", seen, hidden)
	}
}

// TestEndsThatAreSeen: all items are given one pull ahead of it.
func TestEndsThatAreSeen(t *testing.T) {
	src := [][]int{{1, 2}, {10, 20, 30}, {}}
	for _, c := range []struct {
		e    impl.Pipe
		s    int
		from int // the first number of pulls that see it; 0 if none do
	}{
		{pipe(from(0)), 0, 3},
		{pipe(from(0)), 1, 0},
		{pipe(from(0)), 2, 0},
		{pipe(from(2)), 2, 1},
		{one(impl.NkTake, 2, 0), 0, 0},
		{one(impl.NkTake, 3, 0), 0, 3},
		{one(impl.NkDrop, 1, 0), 0, 2},
		{one(impl.NkDrop, 2, 0), 0, 1},
		{one(impl.NkWhile, 2, 0), 0, 0},
		{one(impl.NkBatch, 2, 0), 0, 2},
		{one(impl.NkBatch, 3, 0), 0, 1},
		{two(impl.NkZip), 0, 3},
		{two(impl.NkZip), 1, 0},
		{two(impl.NkChain), 0, 3},
		{two(impl.NkChain), 1, 6},
		{two(impl.NkMerge), 0, 3},
		{two(impl.NkMerge), 1, 6},
	} {
		for k := range 10 {
			if got := impl.SeesEnd(c.e, src, c.s, k); got != (c.from > 0 && k >= c.from) {
				t.Errorf("SeesEnd(%v, %v, %d, %d) = %v", c.e, src, c.s, k, got)
			}
		}
	}
}

// checkNoCosts checks that no function that is given a number of pulls has a
// result for arguments that are not valid.
func checkNoCosts(t *testing.T, e impl.Pipe, src [][]int, k int) {
	t.Helper()
	if len(impl.CountsAfter(e, src, k)) > 0 || len(impl.ReachedBy(e, src, k)) > 0 || impl.TotalPulls(e, src, k) != -1 {
		t.Errorf("CountsAfter, ReachedBy or TotalPulls(%v, %v, %d) has a result", e, src, k)
	}
	for s := -1; s <= 3; s++ {
		if impl.SeesEnd(e, src, s, k) {
			t.Errorf("SeesEnd(%v, %v, %d, %d) = true", e, src, s, k)
		}
	}
	if impl.SameView(e, src, src, k) {
		t.Errorf("SameView(%v, %v, %v, %d) = true", e, src, src, k)
	}
}

// checkNoTable checks that no function about all pulls has a result for
// arguments that are not valid.
func checkNoTable(t *testing.T, e impl.Pipe, src [][]int) {
	t.Helper()
	if len(impl.PullTable(e, src)) > 0 || impl.LongestWait(e, src) != -1 || len(impl.LeftOver(e, src)) > 0 {
		t.Errorf("PullTable, LongestWait or LeftOver(%v, %v) has a result", e, src)
	}
	for s := -1; s <= 3; s++ {
		for i := -1; i <= 13; i++ {
			if got := impl.PullFor(e, src, s, i); got != -1 {
				t.Errorf("PullFor(%v, %v, %d, %d) = %d", e, src, s, i, got)
			}
		}
	}
}

func TestCostsOfOtherArguments(t *testing.T) {
	src := [][]int{{1, 2, 3}, {10, 20}, {5}}
	check := func(e impl.Pipe, src [][]int) {
		for _, k := range []int{-1, 0, 1, 199, 200, 201} {
			checkNoCosts(t, e, src, k)
		}
		checkNoTable(t, e, src)
	}
	for _, e := range badPipes() {
		check(e, src)
	}
	for _, bad := range badSources() {
		for _, e := range []impl.Pipe{tower(1), one(impl.NkTake, 0, 0), pipe(from(2)), two(impl.NkZip)} {
			check(e, bad)
		}
	}
}

func TestCostsOfNumbersOfPulls(t *testing.T) {
	src := [][]int{{1, 2, 3}, {10, 20}, {5}}
	for _, e := range []impl.Pipe{tower(1), tower(12), two(impl.NkZip), one(impl.NkTake, 0, 0)} {
		for _, k := range []int{-1, 201, 202, -200, math.MinInt, math.MaxInt} {
			checkNoCosts(t, e, src, k)
		}
	}
	for _, k := range []int{0, 1, 2, 3, 4, 5, 199, 200} {
		n := min(k, 3)
		checkCostsAfter(t, tower(1), src, k, costs{min(k, 4), []int{n, 0, 0}, []int{n, 0, 0}, []bool{k > 3, false, false}})
	}
}

// TestOtherItems: sources and items that are not there.
func TestOtherItems(t *testing.T) {
	src := [][]int{{1, 2, 3}, {}, fullSource()}
	e := pipe(from(2), from(0), from(1), both(impl.NkChain, 1, 2), both(impl.NkMerge, 0, 3))
	for s, items := range src {
		for _, i := range []int{-1, -2, math.MinInt, len(items), len(items) + 1, 12, 13, math.MaxInt} {
			if got := impl.PullFor(e, src, s, i); got != -1 {
				t.Errorf("PullFor(%v, %v, %d, %d) = %d", e, src, s, i, got)
			}
		}
		if len(items) > 0 && impl.PullFor(e, src, s, len(items)-1) == -1 {
			t.Errorf("PullFor(%v, %v, %d, %d) = -1", e, src, s, len(items)-1)
		}
	}
	for _, s := range []int{-1, 3, 4, math.MinInt, math.MaxInt} {
		for i := -1; i <= 3; i++ {
			if got := impl.PullFor(e, src, s, i); got != -1 {
				t.Errorf("PullFor(%v, %v, %d, %d) = %d", e, src, s, i, got)
			}
		}
		for _, k := range []int{0, 1, 200} {
			if impl.SeesEnd(e, src, s, k) {
				t.Errorf("SeesEnd(%v, %v, %d, %d) = true", e, src, s, k)
			}
		}
	}
}
