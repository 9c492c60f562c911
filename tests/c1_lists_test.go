package tests

import (
	"slices"
	"testing"

	"loop.example/pullstreams/impl"
)

// checkList checks ListOf and LengthOf of a pipe.
func checkList(t *testing.T, e impl.Pipe, src [][]int, want []int) {
	t.Helper()
	if got := impl.ListOf(e, src); !slices.Equal(got, want) {
		t.Errorf("ListOf(%v, %v) = %v, not %v", e, src, got, want)
	}
	if got := impl.LengthOf(e, src); got != len(want) {
		t.Errorf("LengthOf(%v, %v) = %d, not %d", e, src, got, len(want))
	}
}

func TestListsOfOne(t *testing.T) {
	for _, c := range []struct {
		kind, n, m int
		items      []int
		want       []int
	}{
		{impl.NkMap, 3, 7, []int{1, 2, 31}, []int{10, 13, 0}},
		{impl.NkMap, 1, 0, []int{5, 99}, []int{5, 99}},
		{impl.NkMap, 0, 99, []int{5, 99}, []int{99, 99}},
		{impl.NkMap, 99, 99, []int{99, 0}, []int{0, 99}},
		{impl.NkMap, 1, 99, []int{}, nil},
		{impl.NkFilter, 2, 1, []int{1, 2, 3, 4, 5}, []int{1, 3, 5}},
		{impl.NkFilter, 1, 0, []int{1, 2}, []int{1, 2}},
		{impl.NkFilter, 30, 29, []int{29, 30, 59, 89, 90}, []int{29, 59, 89}},
		{impl.NkFilter, 3, 2, []int{0, 1, 3}, nil},
		{impl.NkTake, 0, 0, []int{1, 2}, nil},
		{impl.NkTake, 2, 0, []int{1, 2}, []int{1, 2}},
		{impl.NkTake, 1, 0, []int{1, 2}, []int{1}},
		{impl.NkTake, 30, 0, []int{1, 2}, []int{1, 2}},
		{impl.NkTake, 12, 0, fullSource(), fullSource()},
		{impl.NkTake, 11, 0, fullSource(), fullSource()[:11]},
		{impl.NkDrop, 0, 0, []int{1, 2}, []int{1, 2}},
		{impl.NkDrop, 1, 0, []int{1, 2}, []int{2}},
		{impl.NkDrop, 2, 0, []int{1, 2}, nil},
		{impl.NkDrop, 30, 0, []int{1, 2}, nil},
		{impl.NkWhile, 3, 0, []int{1, 2, 3, 1}, []int{1, 2}},
		{impl.NkWhile, 3, 0, []int{1, 2, 4, 1}, []int{1, 2}},
		{impl.NkWhile, 0, 0, []int{0, 1}, nil},
		{impl.NkWhile, 99, 0, []int{98, 99, 1}, []int{98}},
		{impl.NkWhile, 99, 0, []int{98, 0}, []int{98, 0}},
		{impl.NkSkip, 3, 0, []int{1, 2, 3, 1}, []int{3, 1}},
		{impl.NkSkip, 3, 0, []int{1, 2, 4, 1, 5}, []int{4, 1, 5}},
		{impl.NkSkip, 0, 0, []int{0, 1}, []int{0, 1}},
		{impl.NkSkip, 99, 0, []int{98, 0}, nil},
		{impl.NkScan, 0, 0, []int{1, 2, 98, 99, 0}, []int{1, 3, 1, 0, 0}},
		{impl.NkScan, 0, 0, []int{7}, []int{7}},
		{impl.NkScan, 0, 0, []int{}, nil},
		{impl.NkBatch, 1, 0, []int{7, 8}, []int{7, 8}},
		{impl.NkBatch, 2, 0, []int{1, 2, 3, 4}, []int{3, 7}},
		{impl.NkBatch, 2, 0, []int{1, 2, 3}, []int{3, 3}},
		{impl.NkBatch, 3, 0, []int{50, 60, 70, 80, 90}, []int{80, 70}},
		{impl.NkBatch, 30, 0, []int{60, 70}, []int{30}},
		{impl.NkBatch, 12, 0, fullSource(), []int{94}},
		{impl.NkBatch, 11, 0, fullSource(), []int{0, 94}},
		{impl.NkBatch, 2, 0, []int{}, nil},
		{impl.NkBatch, 2, 0, []int{0}, []int{0}},
		{impl.NkOnce, 0, 0, []int{1, 1, 2, 2, 2, 1}, []int{1, 2, 1}},
		{impl.NkOnce, 0, 0, []int{0, 0}, []int{0}},
		{impl.NkOnce, 0, 0, []int{3, 1, 3}, []int{3, 1, 3}},
		{impl.NkOnce, 0, 0, []int{}, nil},
	} {
		checkList(t, one(c.kind, c.n, c.m), [][]int{c.items, {9}, {8}}, c.want)
	}
}

func TestListsOfTwo(t *testing.T) {
	for _, c := range []struct {
		kind int
		a, b []int
		want []int
	}{
		{impl.NkChain, []int{1, 2}, []int{3}, []int{1, 2, 3}},
		{impl.NkChain, []int{}, []int{3}, []int{3}},
		{impl.NkChain, []int{3}, []int{}, []int{3}},
		{impl.NkChain, []int{}, []int{}, nil},
		{impl.NkZip, []int{1, 2}, []int{3, 4}, []int{4, 6}},
		{impl.NkZip, []int{60, 2, 9}, []int{40, 99}, []int{0, 1}},
		{impl.NkZip, []int{1}, []int{3, 4}, []int{4}},
		{impl.NkZip, []int{1}, []int{}, nil},
		{impl.NkZip, []int{}, []int{1}, nil},
		{impl.NkMerge, []int{1, 5}, []int{2, 3, 9}, []int{1, 2, 3, 5, 9}},
		{impl.NkMerge, []int{5, 1}, []int{3, 4}, []int{3, 4, 5, 1}},
		{impl.NkMerge, []int{9, 1}, []int{9, 8, 9}, []int{9, 1, 9, 8, 9}},
		{impl.NkMerge, []int{2, 1}, []int{2}, []int{2, 1, 2}},
		{impl.NkMerge, []int{}, []int{2, 1}, []int{2, 1}},
		{impl.NkMerge, []int{2, 1}, []int{}, []int{2, 1}},
		{impl.NkTurn, []int{1, 2}, []int{3, 4}, []int{1, 3, 2, 4}},
		{impl.NkTurn, []int{1}, []int{3, 4, 5}, []int{1, 3, 4, 5}},
		{impl.NkTurn, []int{1, 2, 5}, []int{3}, []int{1, 3, 2, 5}},
		{impl.NkTurn, []int{}, []int{3, 4}, []int{3, 4}},
		{impl.NkTurn, []int{3, 4}, []int{}, []int{3, 4}},
	} {
		checkList(t, two(c.kind), [][]int{c.a, c.b, {7, 7}}, c.want)
	}
}

// TestSourcesUsedTwice: each node of a source has all of its items.
func TestSourcesUsedTwice(t *testing.T) {
	src := [][]int{{1, 2, 60}, {9}, {}}
	for _, c := range []struct {
		e    impl.Pipe
		want []int
	}{
		{pipe(from(0), from(0), both(impl.NkChain, 0, 1)), []int{1, 2, 60, 1, 2, 60}},
		{pipe(from(0), from(0), both(impl.NkZip, 0, 1)), []int{2, 4, 20}},
		{pipe(from(0), from(0), both(impl.NkMerge, 0, 1)), []int{1, 1, 2, 2, 60, 60}},
		{pipe(from(0), from(0), both(impl.NkTurn, 0, 1)), []int{1, 1, 2, 2, 60, 60}},
		{pipe(from(0), over(impl.NkDrop, 0, 1, 0), from(0), both(impl.NkZip, 1, 2)), []int{3, 62}},
		{pipe(from(0), from(0), both(impl.NkTurn, 1, 0), over(impl.NkOnce, 2, 0, 0)), []int{1, 2, 60}},
		{pipe(from(2), from(2), both(impl.NkChain, 0, 1)), nil},
	} {
		checkList(t, c.e, src, c.want)
		if got := impl.SourcesOf(c.e); len(got) != 1 {
			t.Errorf("SourcesOf(%v) = %v", c.e, got)
		}
	}
}

func TestLongLists(t *testing.T) {
	e := pipe(from(0), from(0), both(impl.NkChain, 0, 1), from(0), both(impl.NkTurn, 2, 3), from(0), both(impl.NkMerge, 4, 5), from(0), both(impl.NkChain, 6, 7), from(0), both(impl.NkTurn, 8, 9), over(impl.NkDrop, 10, 30, 0))
	src := [][]int{fullSource(), {}, {}}
	checkList(t, e, src, wantList(e, 11, src))
	if n := impl.LengthOf(e, src); n != 6*12-30 {
		t.Errorf("LengthOf = %d", n)
	}
}

// smallLists returns all lists of at most some items, each in 0..2.
func smallLists(most int) [][]int {
	out := [][]int{nil}
	for from := 0; most > 0; most-- {
		end := len(out)
		for _, list := range out[from:end] {
			for x := range 3 {
				out = append(out, append(slices.Clone(list), x))
			}
		}
		from = end
	}
	return out
}

func TestSmallLists(t *testing.T) {
	for _, list := range smallLists(5) {
		src := [][]int{list, nil, nil}
		for _, kind := range kindsOfOne {
			for n := range 7 {
				for m := range 3 {
					if e := one(kind, n, m); wantValid(e) {
						checkList(t, e, src, wantList(e, 1, src))
					}
				}
			}
		}
	}
	for _, a := range smallLists(3) {
		for _, b := range smallLists(3) {
			src := [][]int{a, b, nil}
			for _, kind := range kindsOfTwo {
				checkList(t, two(kind), src, wantList(two(kind), 2, src))
			}
		}
	}
}

func TestListsOfAllPipes(t *testing.T) {
	eachPipe(t, 12, func(e impl.Pipe, src [][]int, _ dice) {
		checkList(t, e, src, wantList(e, len(e.Nodes)-1, src))
	})
}

// TestP3ListsOfListsBelow: a map on the end maps each item, and a take and a
// drop are together the list.
func TestP3ListsOfListsBelow(t *testing.T) {
	eachPipe(t, 11, func(e impl.Pipe, src [][]int, d dice) {
		list := impl.ListOf(e, src)
		n, m := d.numbers(impl.NkMap)
		var want []int
		for _, x := range list {
			want = append(want, (n*x+m)%100)
		}
		checkList(t, putOn(t, e, impl.NkMap, n, m), src, want)
		for _, n := range []int{0, 1, d.upTo(0, 30), min(len(list), 30), 30} {
			taken := impl.ListOf(putOn(t, e, impl.NkTake, n, 0), src)
			dropped := impl.ListOf(putOn(t, e, impl.NkDrop, n, 0), src)
			if len(taken) != min(n, len(list)) || !slices.Equal(slices.Concat(taken, dropped), list) {
				t.Errorf("%v: %v taken and %v dropped of %v", e, taken, dropped, list)
			}
		}
	})
}

// TestP4WhileAndSkip: a while and a skip are together the list, and the last
// item of a scan is the sum.
func TestP4WhileAndSkip(t *testing.T) {
	eachPipe(t, 11, func(e impl.Pipe, src [][]int, d dice) {
		list := impl.ListOf(e, src)
		for _, n := range []int{0, 1, d.upTo(0, 9), d.upTo(0, 99), 99} {
			small := impl.ListOf(putOn(t, e, impl.NkWhile, n, 0), src)
			others := impl.ListOf(putOn(t, e, impl.NkSkip, n, 0), src)
			if !slices.Equal(slices.Concat(small, others), list) {
				t.Errorf("%v: %v and %v are not %v", e, small, others, list)
			}
			if len(small) > 0 && slices.Max(small) >= n || len(others) > 0 && others[0] < n {
				t.Errorf("%v: %v and %v fall apart at %d", e, small, others, n)
			}
		}
		sum := 0
		for _, x := range list {
			sum += x
		}
		sums := impl.ListOf(putOn(t, e, impl.NkScan, 0, 0), src)
		if len(sums) != len(list) || len(sums) > 0 && sums[len(sums)-1] != sum%100 {
			t.Errorf("%v: %v are the sums of %v", e, sums, list)
		}
	})
}

// TestP5LengthsAreCounted: LengthOf is the number of items, and no greater
// than that of all source nodes together.
func TestP5LengthsAreCounted(t *testing.T) {
	eachPipe(t, 12, func(e impl.Pipe, src [][]int, _ dice) {
		n, most := impl.LengthOf(e, src), 0
		for _, n := range e.Nodes {
			if n.Kind == impl.NkSource {
				most += len(src[n.N])
			}
		}
		if n != len(impl.ListOf(e, src)) || n < 0 || n > most {
			t.Errorf("LengthOf(%v, %v) = %d", e, src, n)
		}
	})
	if n := impl.LengthOf(tower(12), [][]int{{}, {1}, {2}}); n != 0 {
		t.Errorf("LengthOf a list without items = %d", n)
	}
}

// TestP6OtherSources: what is in sources that are none of SourcesOf does not
// matter.
func TestP6OtherSources(t *testing.T) {
	eachPipe(t, 12, func(e impl.Pipe, src [][]int, _ dice) {
		list := impl.ListOf(e, src)
		less := make([][]int, len(src))
		for _, s := range impl.SourcesOf(e) {
			less[s] = src[s]
		}
		if got := impl.ListOf(e, less); !slices.Equal(got, list) {
			t.Errorf("ListOf(%v, %v) = %v, not %v", e, less, got, list)
		}
	})
}
