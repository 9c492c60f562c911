package tests

import (
	"math"
	"slices"
	"strconv"
	"testing"

	"loop.example/pullstreams/impl"
)

// logOf returns the text of pulls: a, b or c for the source, and the index of
// the item, or a point.
func logOf(pulls []impl.Pull) string {
	out := ""
	for i, p := range pulls {
		if i > 0 {
			out += " "
		}
		out += string(rune('a' + p.Source))
		if p.Item == -1 {
			out += "."
		} else {
			out += strconv.Itoa(p.Item)
		}
	}
	return out
}

// samePulls reports whether two lists of pulls are the same.
func samePulls(a, b []impl.Pull) bool {
	return slices.Equal(a, b)
}

// checkPulls checks the pulls of each number of pulls, given as the text of
// those that each of them adds; all others add none.
func checkPulls(t *testing.T, e impl.Pipe, src [][]int, each ...string) {
	t.Helper()
	want := ""
	for k := 0; k <= len(each)+3; k++ {
		if k > 0 && k <= len(each) && each[k-1] != "" {
			if want != "" {
				want += " "
			}
			want += each[k-1]
		}
		if got := logOf(impl.PullsOf(e, src, k)); got != want {
			t.Errorf("PullsOf(%v, %v, %d) = %q, not %q", e, src, k, got, want)
		}
	}
	items, pulls := impl.DrainAll(e, src)
	if !slices.Equal(items, impl.ListOf(e, src)) || logOf(pulls) != want {
		t.Errorf("DrainAll(%v, %v) = %v, %q", e, src, items, logOf(pulls))
	}
}

func TestPullsOfSources(t *testing.T) {
	checkPulls(t, pipe(from(0)), [][]int{{7, 8}, {9}, {}}, "a0", "a1", "a.")
	checkPulls(t, pipe(from(1)), [][]int{{7, 8}, {9}, {}}, "b0", "b.")
	checkPulls(t, pipe(from(2)), [][]int{{7, 8}, {9}, {}}, "c.")
	checkPulls(t, pipe(from(2)), [][]int{{}, {}, fullSource()}, "c0", "c1", "c2", "c3", "c4", "c5", "c6", "c7", "c8", "c9", "c10", "c11", "c.")
}

func TestPullsOfOne(t *testing.T) {
	for _, c := range []struct {
		kind, n, m int
		items      []int
		want       []string
	}{
		{impl.NkMap, 3, 7, []int{1, 2}, []string{"a0", "a1", "a."}},
		{impl.NkMap, 0, 0, []int{}, []string{"a."}},
		{impl.NkFilter, 2, 0, []int{1, 2, 3, 5, 4, 7}, []string{"a0 a1", "a2 a3 a4", "a5 a."}},
		{impl.NkFilter, 2, 0, []int{1, 3}, []string{"a0 a1 a."}},
		{impl.NkFilter, 1, 0, []int{1, 3}, []string{"a0", "a1", "a."}},
		{impl.NkTake, 0, 0, []int{1, 2}, []string{""}},
		{impl.NkTake, 1, 0, []int{1, 2}, []string{"a0", ""}},
		{impl.NkTake, 2, 0, []int{1, 2}, []string{"a0", "a1", ""}},
		{impl.NkTake, 3, 0, []int{1, 2}, []string{"a0", "a1", "a."}},
		{impl.NkTake, 0, 0, []int{}, []string{""}},
		{impl.NkTake, 1, 0, []int{}, []string{"a."}},
		{impl.NkDrop, 0, 0, []int{1, 2}, []string{"a0", "a1", "a."}},
		{impl.NkDrop, 1, 0, []int{1, 2}, []string{"a0 a1", "a."}},
		{impl.NkDrop, 2, 0, []int{1, 2}, []string{"a0 a1 a."}},
		{impl.NkDrop, 3, 0, []int{1, 2}, []string{"a0 a1 a."}},
		{impl.NkDrop, 30, 0, []int{}, []string{"a."}},
		{impl.NkWhile, 3, 0, []int{1, 2, 3, 1}, []string{"a0", "a1", "a2"}},
		{impl.NkWhile, 3, 0, []int{1, 2}, []string{"a0", "a1", "a."}},
		{impl.NkWhile, 0, 0, []int{0, 0}, []string{"a0"}},
		{impl.NkWhile, 0, 0, []int{}, []string{"a."}},
		{impl.NkSkip, 3, 0, []int{1, 2, 3, 1}, []string{"a0 a1 a2", "a3", "a."}},
		{impl.NkSkip, 3, 0, []int{1, 2}, []string{"a0 a1 a."}},
		{impl.NkSkip, 0, 0, []int{0, 0}, []string{"a0", "a1", "a."}},
		{impl.NkScan, 0, 0, []int{1, 2}, []string{"a0", "a1", "a."}},
		{impl.NkBatch, 1, 0, []int{1, 2}, []string{"a0", "a1", "a."}},
		{impl.NkBatch, 2, 0, []int{1, 2, 3, 4}, []string{"a0 a1", "a2 a3", "a."}},
		{impl.NkBatch, 2, 0, []int{1, 2, 3}, []string{"a0 a1", "a2 a.", ""}},
		{impl.NkBatch, 30, 0, []int{1, 2, 3}, []string{"a0 a1 a2 a.", ""}},
		{impl.NkBatch, 30, 0, []int{0}, []string{"a0 a.", ""}},
		{impl.NkBatch, 2, 0, []int{}, []string{"a."}},
		{impl.NkOnce, 0, 0, []int{0, 0, 2, 2, 2, 0}, []string{"a0", "a1 a2", "a3 a4 a5", "a."}},
		{impl.NkOnce, 0, 0, []int{2, 2}, []string{"a0", "a1 a."}},
	} {
		checkPulls(t, one(c.kind, c.n, c.m), [][]int{c.items, {9}, {8}}, c.want...)
	}
}

func TestPullsOfTwo(t *testing.T) {
	for _, c := range []struct {
		kind int
		a, b []int
		want []string
	}{
		{impl.NkChain, []int{1, 2}, []int{3}, []string{"a0", "a1", "a. b0", "b."}},
		{impl.NkChain, []int{}, []int{3}, []string{"a. b0", "b."}},
		{impl.NkChain, []int{3}, []int{}, []string{"a0", "a. b."}},
		{impl.NkChain, []int{}, []int{}, []string{"a. b."}},
		{impl.NkZip, []int{1, 2}, []int{3, 4}, []string{"a0 b0", "a1 b1", "a."}},
		{impl.NkZip, []int{1}, []int{3, 4}, []string{"a0 b0", "a."}},
		{impl.NkZip, []int{1, 2}, []int{3}, []string{"a0 b0", "a1 b."}},
		{impl.NkZip, []int{1, 2, 3}, []int{}, []string{"a0 b."}},
		{impl.NkZip, []int{}, []int{1}, []string{"a."}},
		{impl.NkMerge, []int{1, 5}, []int{2, 3}, []string{"a0 b0", "a1", "b1", "b.", "a."}},
		{impl.NkMerge, []int{5, 1}, []int{3, 9}, []string{"a0 b0", "b1", "a1", "a.", "b."}},
		{impl.NkMerge, []int{9, 1}, []int{9, 8, 9}, []string{"a0 b0", "a1", "a.", "b1", "b2", "b."}},
		{impl.NkMerge, []int{2, 2}, []int{2}, []string{"a0 b0", "a1", "a.", "b."}},
		{impl.NkMerge, []int{0}, []int{}, []string{"a0 b.", "a."}},
		{impl.NkMerge, []int{}, []int{0, 3}, []string{"a. b0", "b1", "b."}},
		{impl.NkMerge, []int{}, []int{}, []string{"a. b."}},
		{impl.NkTurn, []int{1, 2}, []int{3, 4}, []string{"a0", "b0", "a1", "b1", "a. b."}},
		{impl.NkTurn, []int{1}, []int{3, 4, 5}, []string{"a0", "b0", "a. b1", "b2", "b."}},
		{impl.NkTurn, []int{1, 2, 5}, []int{3}, []string{"a0", "b0", "a1", "b. a2", "a."}},
		{impl.NkTurn, []int{}, []int{3, 4}, []string{"a. b0", "b1", "b."}},
		{impl.NkTurn, []int{3, 4}, []int{}, []string{"a0", "b. a1", "a."}},
		{impl.NkTurn, []int{}, []int{}, []string{"a. b."}},
	} {
		checkPulls(t, two(c.kind), [][]int{c.a, c.b, {7, 7}}, c.want...)
	}
}

// TestPullsAcrossNodes: a node that has ended keeps the pulls from those below.
func TestPullsAcrossNodes(t *testing.T) {
	src := [][]int{{1, 2, 3}, {10, 20, 30, 40}, {}}
	for _, c := range []struct {
		e    impl.Pipe
		want []string
	}{
		{pipe(from(0), over(impl.NkTake, 0, 1, 0), from(1), both(impl.NkChain, 1, 2)), []string{"a0", "b0", "b1", "b2", "b3", "b."}},
		{pipe(from(0), over(impl.NkWhile, 0, 2, 0), from(1), both(impl.NkTurn, 1, 2)), []string{"a0", "b0", "a1 b1", "b2", "b3", "b."}},
		{pipe(from(0), from(1), over(impl.NkTake, 1, 0, 0), both(impl.NkMerge, 0, 2)), []string{"a0", "a1", "a2", "a."}},
		{pipe(from(1), over(impl.NkTake, 0, 3, 0), over(impl.NkBatch, 1, 2, 0)), []string{"b0 b1", "b2", ""}},
		{pipe(from(1), over(impl.NkBatch, 0, 2, 0), over(impl.NkTake, 1, 1, 0)), []string{"b0 b1", ""}},
		{pipe(from(1), over(impl.NkTake, 0, 2, 0), over(impl.NkDrop, 1, 1, 0)), []string{"b0 b1", ""}},
		{pipe(from(1), over(impl.NkDrop, 0, 1, 0), over(impl.NkTake, 1, 1, 0)), []string{"b0 b1", ""}},
		{pipe(from(0), from(2), both(impl.NkZip, 0, 1), from(1), both(impl.NkChain, 2, 3)), []string{"a0 c. b0", "b1", "b2", "b3", "b."}},
		{pipe(from(0), from(0), both(impl.NkZip, 0, 1)), []string{"a0 a0", "a1 a1", "a2 a2", "a."}},
		{pipe(from(0), from(0), both(impl.NkChain, 0, 1)), []string{"a0", "a1", "a2", "a. a0", "a1", "a2", "a."}},
		{pipe(from(0), over(impl.NkDrop, 0, 1, 0), from(0), both(impl.NkZip, 2, 1)), []string{"a0 a0 a1", "a1 a2", "a2 a."}},
		{pipe(from(2), from(2), both(impl.NkMerge, 0, 1)), []string{"c. c."}},
	} {
		checkPulls(t, c.e, src, c.want...)
	}
}

// numbersOfPulls are numbers of pulls, ascending: all up to some more than a
// list has items, and few that are far beyond.
func numbersOfPulls(items int) []int {
	var out []int
	for k := range items + 4 {
		out = append(out, k)
	}
	return append(out, 100, 199, 200)
}

// checkAnswers holds all functions that are given a number of pulls against
// the model that knows no state.
func checkAnswers(t *testing.T, e impl.Pipe, src [][]int) {
	t.Helper()
	answers := wantAnswers(e, len(e.Nodes)-1, src)
	for _, k := range numbersOfPulls(len(answers)) {
		made := answers[:min(k, len(answers))]
		var items []int
		for _, x := range made {
			if x.ok {
				items = append(items, x.item)
			}
		}
		if got := impl.FirstItems(e, src, k); !slices.Equal(got, items) {
			t.Errorf("FirstItems(%v, %v, %d) = %v, not %v", e, src, k, got, items)
		}
		if got := impl.PullsOf(e, src, k); !samePulls(got, pullsOf(made)) {
			t.Errorf("PullsOf(%v, %v, %d) = %q, not %q", e, src, k, logOf(got), logOf(pullsOf(made)))
		}
		if got := impl.IsEnded(e, src, k); got != (k >= len(answers)) {
			t.Errorf("IsEnded(%v, %v, %d) = %v", e, src, k, got)
		}
	}
	_, pulls := impl.DrainAll(e, src)
	if !samePulls(pulls, pullsOf(answers)) {
		t.Errorf("DrainAll(%v, %v) makes the pulls %q", e, src, logOf(pulls))
	}
}

func TestPullsOfAllPipes(t *testing.T) {
	eachPipe(t, 12, func(e impl.Pipe, src [][]int, _ dice) {
		checkAnswers(t, e, src)
	})
}

func TestPullsOfSmallLists(t *testing.T) {
	for _, list := range smallLists(4) {
		src := [][]int{list, nil, nil}
		for _, kind := range kindsOfOne {
			for n := range 6 {
				if e := one(kind, n, 0); wantValid(e) {
					checkAnswers(t, e, src)
				}
			}
		}
	}
	for _, a := range smallLists(2) {
		for _, b := range smallLists(3) {
			for _, kind := range kindsOfTwo {
				checkAnswers(t, two(kind), [][]int{a, b, nil})
			}
		}
	}
}

// longest is a pipe with as long a list as there can be.
func longest() (impl.Pipe, [][]int) {
	e := pipe(from(0))
	for i := range 5 {
		e.Nodes = append(e.Nodes, from(i%3), both(kindsOfTwo[i%2*2], 2*i, 2*i+1))
	}
	return e, [][]int{fullSource(), fullSource(), fullSource()}
}

func TestLongestPipe(t *testing.T) {
	e, src := longest()
	checkAnswers(t, e, src)
	items, pulls := impl.DrainAll(e, src)
	if len(items) != 6*12 || len(pulls) != 6*13 {
		t.Errorf("DrainAll has %d items and %d pulls", len(items), len(pulls))
	}
}

// TestP18PulledItemsAreListed: FirstItems of k pulls are the first k items of
// ListOf, or all.
func TestP18PulledItemsAreListed(t *testing.T) {
	eachPipe(t, 12, func(e impl.Pipe, src [][]int, _ dice) {
		list := impl.ListOf(e, src)
		for _, k := range numbersOfPulls(len(list)) {
			if got := impl.FirstItems(e, src, k); !slices.Equal(got, list[:min(k, len(list))]) {
				t.Errorf("FirstItems(%v, %v, %d) = %v of %v", e, src, k, got, list)
			}
		}
	})
}

// TestP20MorePullsOnlyAdd: PullsOf of fewer pulls is the beginning of PullsOf,
// and each pull that gives an item gives one of its source.
func TestP20MorePullsOnlyAdd(t *testing.T) {
	eachPipe(t, 12, func(e impl.Pipe, src [][]int, _ dice) {
		var before []impl.Pull
		for _, k := range numbersOfPulls(impl.LengthOf(e, src)) {
			pulls := impl.PullsOf(e, src, k)
			if len(pulls) < len(before) || !samePulls(pulls[:len(before)], before) || k == 0 && len(pulls) > 0 {
				t.Errorf("PullsOf(%v, %v, %d) = %q behind %q", e, src, k, logOf(pulls), logOf(before))
			}
			before = pulls
		}
		sources := impl.SourcesOf(e)
		for _, p := range impl.PullsOf(e, src, 200) {
			if !slices.Contains(sources, p.Source) || p.Item < -1 || p.Item >= len(src[p.Source]) {
				t.Errorf("PullsOf(%v, %v, 200) has the pull %v", e, src, p)
			}
		}
	})
}

// TestP21LinesPullInOrder: PullsOf a line gives the items 0, 1, 2 and so on,
// and none after the end.
func TestP21LinesPullInOrder(t *testing.T) {
	ends := 0
	eachPipe(t, 12, func(e impl.Pipe, src [][]int, d dice) {
		if !impl.IsLine(e) {
			e = d.lineOf(len(e.Nodes))
		}
		source := impl.SourcesOf(e)[0]
		for i, p := range impl.PullsOf(e, src, d.upTo(0, 20)) {
			want := impl.Pull{Source: source, Item: i}
			if i == len(src[source]) {
				want.Item = -1
				ends++
			}
			if i > len(src[source]) || p != want {
				t.Errorf("the pull %d of %v, %v is %v", i, e, src, p)
			}
		}
	})
	if ends < 100 {
		t.Errorf("only %d lines were pulled to their ends", ends)
	}
}

// TestP22DrainedPipes: the items of DrainAll are ListOf, and its pulls are
// those of any number of pulls beyond.
func TestP22DrainedPipes(t *testing.T) {
	eachPipe(t, 12, func(e impl.Pipe, src [][]int, _ dice) {
		items, pulls := impl.DrainAll(e, src)
		if !slices.Equal(items, impl.ListOf(e, src)) {
			t.Errorf("DrainAll(%v, %v) = %v", e, src, items)
		}
		for _, k := range []int{len(items) + 1, len(items) + 2, 100, 199, 200} {
			if !samePulls(impl.PullsOf(e, src, k), pulls) {
				t.Errorf("DrainAll(%v, %v) makes the pulls %q", e, src, logOf(pulls))
			}
		}
	})
}

// TestP23PipesEndAfterTheirList: IsEnded holds exactly for more pulls than
// ListOf has items.
func TestP23PipesEndAfterTheirList(t *testing.T) {
	eachPipe(t, 12, func(e impl.Pipe, src [][]int, _ dice) {
		items := impl.LengthOf(e, src)
		for _, k := range numbersOfPulls(items) {
			if got := impl.IsEnded(e, src, k); got != (k > items) {
				t.Errorf("IsEnded(%v, %v, %d) = %v", e, src, k, got)
			}
		}
	})
}

// TestP24DoneNodesStayDone: DoneNodes of fewer pulls are among DoneNodes, and
// the end is one of them exactly if IsEnded.
func TestP24DoneNodesStayDone(t *testing.T) {
	eachPipe(t, 12, func(e impl.Pipe, src [][]int, _ dice) {
		var before []int
		for _, k := range numbersOfPulls(impl.LengthOf(e, src)) {
			done := impl.DoneNodes(e, src, k)
			if !slices.IsSorted(done) || len(slices.Compact(slices.Clone(done))) != len(done) {
				t.Errorf("DoneNodes(%v, %v, %d) = %v", e, src, k, done)
			}
			for _, i := range before {
				if !slices.Contains(done, i) {
					t.Errorf("DoneNodes(%v, %v, %d) = %v behind %v", e, src, k, done, before)
				}
			}
			if slices.Contains(done, len(e.Nodes)-1) != impl.IsEnded(e, src, k) {
				t.Errorf("DoneNodes(%v, %v, %d) = %v", e, src, k, done)
			}
			before = done
		}
	})
}

func TestDoneNodes(t *testing.T) {
	src := [][]int{{1, 2, 3}, {10, 20, 30}, {}}
	e := pipe(from(0), over(impl.NkTake, 0, 2, 0), from(1), both(impl.NkZip, 1, 2))
	chained := pipe(from(2), from(0), both(impl.NkChain, 0, 1), over(impl.NkBatch, 2, 2, 0))
	for _, c := range []struct {
		e    impl.Pipe
		k    int
		want []int
	}{
		{e, 0, nil},
		{e, 2, nil},
		{e, 3, []int{1, 3}},
		{e, 200, []int{1, 3}},
		{chained, 0, nil},
		{chained, 1, []int{0}},
		{chained, 2, []int{0, 1, 2}},
		{chained, 3, []int{0, 1, 2, 3}},
	} {
		if got := impl.DoneNodes(c.e, src, c.k); !slices.Equal(got, c.want) {
			t.Errorf("DoneNodes(%v, %d) = %v, not %v", c.e, c.k, got, c.want)
		}
	}
}

// checkNothing checks that no function has a result for arguments that are not
// valid.
func checkNothing(t *testing.T, e impl.Pipe, src [][]int, k int) {
	t.Helper()
	if len(impl.FirstItems(e, src, k)) > 0 || len(impl.StateAfter(e, src, k).Cells) > 0 || len(impl.PullsOf(e, src, k)) > 0 {
		t.Errorf("FirstItems, StateAfter or PullsOf(%v, %v, %d) has a result", e, src, k)
	}
	if impl.IsEnded(e, src, k) || len(impl.DoneNodes(e, src, k)) > 0 {
		t.Errorf("IsEnded or DoneNodes(%v, %v, %d) has a result", e, src, k)
	}
}

func TestNumbersOfPulls(t *testing.T) {
	src := [][]int{{1, 2, 3}, {10, 20}, {5}}
	pipes := []impl.Pipe{tower(1), two(impl.NkZip), one(impl.NkTake, 0, 0)}
	for _, e := range pipes {
		for _, k := range []int{-1, 201, 202, -200, math.MinInt, math.MaxInt} {
			checkNothing(t, e, src, k)
		}
	}
	for k, want := range map[int]string{0: "", 1: "a0", 3: "a0 a1 a2", 4: "a0 a1 a2 a.", 199: "a0 a1 a2 a.", 200: "a0 a1 a2 a."} {
		if got := logOf(impl.PullsOf(tower(1), src, k)); got != want || len(impl.FirstItems(tower(1), src, k)) != min(k, 3) {
			t.Errorf("PullsOf %d pulls = %q", k, got)
		}
		s := impl.StateAfter(tower(1), src, k)
		if len(s.Cells) != 1 || s.Cells[0] != (impl.Cell{Count: min(k, 3), Done: k > 3}) || impl.IsEnded(tower(1), src, k) != (k > 3) {
			t.Errorf("StateAfter %d pulls = %v", k, s)
		}
	}
}

func TestPullsOfOtherArguments(t *testing.T) {
	src := [][]int{{1, 2, 3}, {10, 20}, {5}}
	check := func(e impl.Pipe, src [][]int) {
		for _, k := range []int{-1, 0, 1, 199, 200, 201} {
			checkNothing(t, e, src, k)
		}
		if items, pulls := impl.DrainAll(e, src); len(items) > 0 || len(pulls) > 0 {
			t.Errorf("DrainAll(%v, %v) = %v, %v", e, src, items, pulls)
		}
	}
	for _, e := range badPipes() {
		check(e, src)
	}
	for _, bad := range badSources() {
		for _, e := range []impl.Pipe{tower(1), one(impl.NkTake, 0, 0), pipe(from(2)), two(impl.NkZip)} {
			check(e, bad)
		}
	}
}
