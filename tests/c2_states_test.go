package tests

import (
	"math"
	"slices"
	"testing"

	"loop.example/pullstreams/impl"
)

// cells returns a state.
func cells(list ...impl.Cell) impl.State {
	return impl.State{Cells: list}
}

// copyState returns the same state in other memory.
func copyState(s impl.State) impl.State {
	return impl.State{Cells: slices.Clone(s.Cells)}
}

// sameState reports whether two states have the same cells.
func sameState(a, b impl.State) bool {
	return slices.Equal(a.Cells, b.Cells)
}

// wantMost returns the greatest Count of a node.
func wantMost(n impl.Node, src [][]int) int {
	switch n.Kind {
	case impl.NkSource:
		return len(src[n.N])
	case impl.NkTake, impl.NkDrop:
		return n.N
	case impl.NkSkip, impl.NkTurn:
		return 1
	case impl.NkScan:
		return 99
	}
	return 0
}

// state returns a valid state, to which no pulls need lead.
func (d dice) state(e impl.Pipe, src [][]int) impl.State {
	var s impl.State
	done := d.IntN(3) // of five
	for _, n := range e.Nodes {
		great := []int{0, 5, 99}[d.IntN(3)]
		c := impl.Cell{Left: d.upTo(0, great), Right: d.upTo(0, great), HasLeft: d.IntN(2) == 0, HasRight: d.IntN(2) == 0, Done: d.IntN(5) < done}
		most := wantMost(n, src)
		c.Count = []int{0, most, d.upTo(0, most)}[d.IntN(3)]
		s.Cells = append(s.Cells, c)
	}
	return s
}

// eachState calls a test for many valid pipes, sources and states.
func eachState(t *testing.T, test func(e impl.Pipe, src [][]int, s impl.State)) {
	t.Helper()
	eachPipe(t, 12, func(e impl.Pipe, src [][]int, d dice) {
		for range 5 {
			test(e, src, d.state(e, src))
		}
		for range 2 {
			test(e, src, impl.StateAfter(e, src, d.upTo(0, 15)))
		}
	})
}

// checkNext holds NextItem against the model that knows states, and returns
// the state behind it.
func checkNext(t *testing.T, e impl.Pipe, src [][]int, s impl.State) impl.State {
	t.Helper()
	want := copyState(s)
	x := wantPull(e, src, want, len(e.Nodes)-1)
	next, item, ok := impl.NextItem(e, src, s)
	if !sameState(next, want) || item != x.item || ok != x.ok {
		t.Errorf("NextItem(%v, %v, %v) = %v, %d, %v, not %v, %d, %v", e, src, s, next, item, ok, want, x.item, x.ok)
	}
	return next
}

func TestNextItemOfAllStates(t *testing.T) {
	eachState(t, func(e impl.Pipe, src [][]int, s impl.State) {
		for range 4 {
			s = checkNext(t, e, src, s)
		}
	})
}

// TestStatesOfAllPipes holds StateAfter and DoneNodes against the model that
// knows states.
func TestStatesOfAllPipes(t *testing.T) {
	eachPipe(t, 12, func(e impl.Pipe, src [][]int, _ dice) {
		s := impl.State{Cells: make([]impl.Cell, len(e.Nodes))}
		for k := range impl.LengthOf(e, src) + 4 {
			if got := impl.StateAfter(e, src, k); !sameState(got, s) {
				t.Errorf("StateAfter(%v, %v, %d) = %v, not %v", e, src, k, got, s)
			}
			var done []int
			for i, c := range s.Cells {
				if c.Done {
					done = append(done, i)
				}
			}
			if got := impl.DoneNodes(e, src, k); !slices.Equal(got, done) {
				t.Errorf("DoneNodes(%v, %v, %d) = %v, not %v", e, src, k, got, done)
			}
			wantPull(e, src, s, len(e.Nodes)-1)
		}
		if got := impl.StateAfter(e, src, 200); !sameState(got, s) {
			t.Errorf("StateAfter(%v, %v, 200) = %v, not %v", e, src, got, s)
		}
	})
}

// step is one pull in a state.
type step struct {
	e    impl.Pipe
	in   impl.State
	want impl.State
	item int
	ok   bool
}

// checkSteps checks single pulls with the sources 3, 4, 3 and 7, 8.
func checkSteps(t *testing.T, steps []step) {
	t.Helper()
	src := [][]int{{3, 4, 3}, {7, 8}, {}}
	for _, c := range steps {
		if !impl.ValidState(c.e, src, c.in) {
			t.Errorf("ValidState(%v, %v, %v) = false", c.e, src, c.in)
		}
		next, item, ok := impl.NextItem(c.e, src, c.in)
		if !sameState(next, c.want) || item != c.item || ok != c.ok {
			t.Errorf("NextItem(%v, %v, %v) = %v, %d, %v, not %v, %d, %v", c.e, src, c.in, next, item, ok, c.want, c.item, c.ok)
		}
	}
}

// TestStatesOutOfNowhere has states to which no pulls from the beginning lead.
func TestStatesOutOfNowhere(t *testing.T) {
	type cell = impl.Cell
	full := cell{Left: 9, Right: 8, HasLeft: true, HasRight: true}
	ended := cell{Count: 3, Done: true}
	checkSteps(t, []step{
		// An end that is Done gives none, whatever is below, and in its cell.
		{tower(1), cells(cell{Count: 1, Done: true}), cells(cell{Count: 1, Done: true}), 0, false},
		{one(impl.NkTake, 5, 0), cells(cell{}, cell{Done: true}), cells(cell{}, cell{Done: true}), 0, false},
		{two(impl.NkMerge), cells(cell{}, cell{}, cell{Left: 9, HasLeft: true, Done: true}), cells(cell{}, cell{}, cell{Left: 9, HasLeft: true, Done: true}), 0, false},
		// All items are given, but it was not asked for one more.
		{tower(1), cells(cell{Count: 3}), cells(ended), 0, false},
		{tower(1), cells(cell{Count: 2}), cells(cell{Count: 3}), 3, true},
		// What a kind does not use stays.
		{tower(1), cells(full), cells(cell{Count: 1, Left: 9, Right: 8, HasLeft: true, HasRight: true}), 3, true},
		{one(impl.NkMap, 2, 1), cells(full, full), cells(cell{Count: 1, Left: 9, Right: 8, HasLeft: true, HasRight: true}, full), 7, true},
		{two(impl.NkChain), cells(cell{}, cell{}, full), cells(cell{Count: 1}, cell{}, full), 3, true},
		// A source is Done though it has items left.
		{one(impl.NkFilter, 2, 1), cells(cell{Done: true}, cell{}), cells(cell{Done: true}, cell{Done: true}), 0, false},
		{two(impl.NkChain), cells(cell{Done: true}, cell{}, cell{}), cells(cell{Done: true}, cell{Count: 1}, cell{}), 7, true},
		// Counts that are ahead of the source, or behind it.
		{one(impl.NkTake, 2, 0), cells(cell{}, cell{Count: 2}), cells(cell{}, cell{Count: 2, Done: true}), 0, false},
		{one(impl.NkTake, 2, 0), cells(cell{Count: 3}, cell{Count: 1}), cells(ended, cell{Count: 2, Done: true}), 0, false},
		{one(impl.NkTake, 2, 0), cells(cell{Count: 2}, cell{Count: 0}), cells(cell{Count: 3}, cell{Count: 1}), 3, true},
		{one(impl.NkDrop, 4, 0), cells(cell{}, cell{Count: 4}), cells(cell{Count: 1}, cell{Count: 4}), 3, true},
		{one(impl.NkDrop, 4, 0), cells(cell{}, cell{Count: 3}), cells(cell{Count: 2}, cell{Count: 4}), 4, true},
		{one(impl.NkDrop, 4, 0), cells(cell{Count: 2}, cell{Count: 0}), cells(ended, cell{Count: 2, Done: true}), 0, false},
		{one(impl.NkSkip, 9, 0), cells(cell{}, cell{Count: 1}), cells(cell{Count: 1}, cell{Count: 1}), 3, true},
		{one(impl.NkSkip, 4, 0), cells(cell{Count: 2}, cell{}), cells(ended, cell{Done: true}), 0, false},
		{one(impl.NkScan, 0, 0), cells(cell{}, cell{Count: 99}), cells(cell{Count: 1}, cell{Count: 2}), 2, true},
		{one(impl.NkScan, 0, 0), cells(ended, cell{Count: 99}), cells(ended, cell{Count: 99, Done: true}), 0, false},
		// Only what there is counts as the item given last.
		{one(impl.NkOnce, 0, 0), cells(cell{}, cell{Left: 3}), cells(cell{Count: 1}, cell{Left: 3, HasLeft: true}), 3, true},
		{one(impl.NkOnce, 0, 0), cells(cell{}, cell{Left: 3, HasLeft: true}), cells(cell{Count: 2}, cell{Left: 4, HasLeft: true}), 4, true},
		{one(impl.NkOnce, 0, 0), cells(cell{Count: 2}, cell{Left: 3, HasLeft: true, Right: 5, HasRight: true}), cells(ended, cell{Left: 3, Right: 5, HasLeft: true, HasRight: true, Done: true}), 0, false},
		{one(impl.NkBatch, 5, 0), cells(cell{Count: 1}, cell{}), cells(ended, cell{}), 7, true},
		{one(impl.NkBatch, 5, 0), cells(ended, cell{}), cells(ended, cell{Done: true}), 0, false},
		{one(impl.NkWhile, 4, 0), cells(cell{Count: 1}, cell{}), cells(cell{Count: 2}, cell{Done: true}), 0, false},
		{one(impl.NkWhile, 4, 0), cells(cell{Count: 2}, cell{}), cells(cell{Count: 3}, cell{}), 3, true},
		{two(impl.NkZip), cells(cell{Count: 2}, cell{Count: 2}, cell{}), cells(cell{Count: 3}, cell{Count: 2, Done: true}, cell{Done: true}), 0, false},
		{two(impl.NkZip), cells(cell{Count: 2}, cell{Count: 0}, cell{}), cells(cell{Count: 3}, cell{Count: 1}, cell{}), 10, true},
		{two(impl.NkTurn), cells(cell{}, cell{}, cell{Count: 1}), cells(cell{}, cell{Count: 1}, cell{}), 7, true},
		{two(impl.NkTurn), cells(cell{}, cell{Count: 2}, cell{Count: 1}), cells(cell{Count: 1}, cell{Count: 2, Done: true}, cell{}), 3, true},
		{two(impl.NkTurn), cells(ended, cell{Count: 2}, cell{Count: 1}), cells(ended, cell{Count: 2, Done: true}, cell{Done: true}), 0, false},
		{two(impl.NkTurn), cells(ended, cell{Count: 2}, cell{}), cells(ended, cell{Count: 2, Done: true}, cell{Count: 1, Done: true}), 0, false},
	})
}

// TestKeptItemsOfMerges has states of a merge with items that it keeps.
func TestKeptItemsOfMerges(t *testing.T) {
	type cell = impl.Cell
	e := two(impl.NkMerge)
	endA, endB := cell{Count: 3, Done: true}, cell{Count: 2, Done: true}
	checkSteps(t, []step{
		{e, cells(cell{}, cell{}, cell{Left: 9, Right: 8, HasLeft: true, HasRight: true}), cells(cell{}, cell{}, cell{Left: 9, HasLeft: true}), 8, true},
		{e, cells(cell{}, cell{}, cell{Left: 8, Right: 8, HasLeft: true, HasRight: true}), cells(cell{}, cell{}, cell{Right: 8, HasRight: true}), 8, true},
		{e, cells(cell{}, cell{}, cell{Left: 5, HasLeft: true}), cells(cell{}, cell{Count: 1}, cell{Right: 7, HasRight: true}), 5, true},
		{e, cells(cell{}, cell{}, cell{Right: 2, HasRight: true}), cells(cell{Count: 1}, cell{}, cell{Left: 3, HasLeft: true}), 2, true},
		// Numbers that are not there do not count, and are gone.
		{e, cells(cell{}, cell{}, cell{Left: 99, Right: 1}), cells(cell{Count: 1}, cell{Count: 1}, cell{Right: 7, HasRight: true}), 3, true},
		{e, cells(endA, cell{}, cell{Left: 1, Right: 1}), cells(endA, cell{Count: 1}, cell{}), 7, true},
		{e, cells(cell{}, endB, cell{Left: 1, Right: 1}), cells(cell{Count: 1}, endB, cell{}), 3, true},
		{e, cells(endA, endB, cell{Left: 1, Right: 1}), cells(endA, endB, cell{Done: true}), 0, false},
		// What is kept is given though both sides have ended.
		{e, cells(endA, endB, cell{Left: 9, Right: 8, HasLeft: true, HasRight: true}), cells(endA, endB, cell{Left: 9, HasLeft: true}), 8, true},
		{e, cells(endA, endB, cell{Left: 9, Right: 1, HasLeft: true}), cells(endA, endB, cell{}), 9, true},
		{e, cells(endA, endB, cell{Left: 9, HasRight: true}), cells(endA, endB, cell{}), 0, true},
	})
}

// TestP14StatesGoOn: a valid state is valid after one pull.
func TestP14StatesGoOn(t *testing.T) {
	eachState(t, func(e impl.Pipe, src [][]int, s impl.State) {
		if !impl.ValidState(e, src, s) {
			t.Fatalf("ValidState(%v, %v, %v) = false", e, src, s)
		}
		for range 6 {
			next, _, _ := impl.NextItem(e, src, s)
			if !impl.ValidState(e, src, next) {
				t.Errorf("NextItem(%v, %v, %v) = %v is not valid", e, src, s, next)
			}
			s = next
		}
	})
}

// TestP15NewStatesHavePulledNothing: NewState is StateAfter of no pulls.
func TestP15NewStatesHavePulledNothing(t *testing.T) {
	eachPipe(t, 12, func(e impl.Pipe, src [][]int, _ dice) {
		s := impl.NewState(e)
		if !sameState(s, impl.StateAfter(e, src, 0)) || len(impl.PullsOf(e, src, 0)) > 0 {
			t.Errorf("NewState(%v) = %v", e, s)
		}
		if len(s.Cells) != len(e.Nodes) || !impl.ValidState(e, src, s) {
			t.Errorf("NewState(%v) = %v", e, s)
		}
		for _, c := range s.Cells {
			if c != (impl.Cell{}) {
				t.Errorf("NewState(%v) = %v", e, s)
			}
		}
	})
}

// TestP16EndedPipesStayEnded: where NextItem gives none the end is Done, and it
// gives none again, and changes nothing.
func TestP16EndedPipesStayEnded(t *testing.T) {
	ends := 0
	eachState(t, func(e impl.Pipe, src [][]int, s impl.State) {
		for range 80 {
			next, x, ok := impl.NextItem(e, src, s)
			if done := next.Cells[len(next.Cells)-1].Done; done == ok || !ok && x != 0 {
				t.Errorf("NextItem(%v, %v, %v) = %v, %d, %v", e, src, s, next, x, ok)
			}
			s = next
			if ok {
				continue
			}
			ends++
			if again, x, ok := impl.NextItem(e, src, s); ok || x != 0 || !sameState(again, s) {
				t.Errorf("NextItem(%v, %v, %v) = %v, %d, %v", e, src, s, again, x, ok)
			}
			return
		}
		t.Errorf("%v, %v does not end", e, src)
	})
	if ends < 1000 {
		t.Errorf("only %d pipes have ended", ends)
	}
}

// TestP17NothingIsPulledTwice: after NextItem no node of NkSource has a lesser
// Count, and none that is Done is not Done any more.
func TestP17NothingIsPulledTwice(t *testing.T) {
	eachState(t, func(e impl.Pipe, src [][]int, s impl.State) {
		for range 4 {
			next, _, _ := impl.NextItem(e, src, s)
			for i, n := range e.Nodes {
				less := n.Kind == impl.NkSource && next.Cells[i].Count < s.Cells[i].Count
				if less || s.Cells[i].Done && next.Cells[i] != s.Cells[i] {
					t.Errorf("NextItem(%v, %v, %v) = %v", e, src, s, next)
				}
			}
			s = next
		}
	})
}

// TestP19PullsFollowEachOther: StateAfter of one more pull is NextItem, with
// the next item of ListOf, if there is one.
func TestP19PullsFollowEachOther(t *testing.T) {
	eachPipe(t, 12, func(e impl.Pipe, src [][]int, _ dice) {
		list := impl.ListOf(e, src)
		numbers := numbersOfPulls(len(list))
		for _, k := range numbers[:len(numbers)-1] { // there is no number for one more than the last one
			next, x, ok := impl.NextItem(e, src, impl.StateAfter(e, src, k))
			if !sameState(next, impl.StateAfter(e, src, k+1)) {
				t.Errorf("StateAfter(%v, %v, %d) does not follow", e, src, k+1)
			}
			if ok != (k < len(list)) || ok && x != list[k] || !ok && x != 0 {
				t.Errorf("NextItem(%v, %v) = %d, %v after %d pulls of %v", e, src, x, ok, k, list)
			}
		}
	})
}

func TestCountsOfStates(t *testing.T) {
	src := [][]int{{1, 2, 3}, {}, fullSource()}
	for _, c := range []struct {
		e    impl.Pipe
		most int
	}{
		{pipe(from(0)), 3},
		{pipe(from(1)), 0},
		{pipe(from(2)), 12},
		{one(impl.NkMap, 9, 9), 0},
		{one(impl.NkFilter, 9, 8), 0},
		{one(impl.NkTake, 0, 0), 0},
		{one(impl.NkTake, 30, 0), 30},
		{one(impl.NkDrop, 0, 0), 0},
		{one(impl.NkDrop, 30, 0), 30},
		{one(impl.NkWhile, 9, 0), 0},
		{one(impl.NkSkip, 9, 0), 1},
		{one(impl.NkSkip, 0, 0), 1},
		{one(impl.NkScan, 0, 0), 99},
		{one(impl.NkBatch, 9, 0), 0},
		{one(impl.NkOnce, 0, 0), 0},
		{two(impl.NkChain), 0},
		{two(impl.NkZip), 0},
		{two(impl.NkMerge), 0},
		{two(impl.NkTurn), 1},
	} {
		end := len(c.e.Nodes) - 1
		for _, count := range []int{0, c.most, -1, c.most + 1, math.MinInt, math.MaxInt} {
			s := impl.NewState(c.e)
			s.Cells[end].Count = count
			checkValidState(t, c.e, src, s, count >= 0 && count <= c.most)
		}
	}
}

// checkValidState checks ValidState, and that NextItem has a result just for
// states that are valid.
func checkValidState(t *testing.T, e impl.Pipe, src [][]int, s impl.State, want bool) {
	t.Helper()
	if got := impl.ValidState(e, src, s); got != want {
		t.Errorf("ValidState(%v, %v, %v) = %v", e, src, s, got)
	}
	next, x, ok := impl.NextItem(e, src, s)
	if want != (len(next.Cells) > 0) || !want && (x != 0 || ok) {
		t.Errorf("NextItem(%v, %v, %v) = %v, %d, %v", e, src, s, next, x, ok)
	}
}

func TestCellsOfStates(t *testing.T) {
	src := [][]int{{1, 2, 3}, {10, 20}, {5}}
	pipes := []impl.Pipe{tower(1), tower(12), tangled()}
	for _, kind := range kindsOfOne {
		pipes = append(pipes, one(kind, 1, 0), pipe(from(0), over(kind, 0, 1, 0), from(1), both(impl.NkZip, 1, 2)))
	}
	for _, kind := range kindsOfTwo {
		pipes = append(pipes, two(kind))
	}
	for _, e := range pipes {
		if !wantValid(e) {
			continue
		}
		for i := range e.Nodes {
			for _, c := range []impl.Cell{{Left: 99}, {Right: 99}, {HasLeft: true}, {HasRight: true}, {Done: true}, {Left: 99, Right: 99, HasLeft: true, HasRight: true, Done: true}} {
				s := impl.NewState(e)
				s.Cells[i] = c
				checkValidState(t, e, src, s, true)
			}
			for _, c := range []impl.Cell{{Left: 100}, {Left: -1}, {Right: 100}, {Right: -1}, {Left: math.MinInt}, {Right: math.MaxInt}, {Count: -1}, {Count: math.MaxInt}, {Left: 100, HasLeft: true}, {Right: -1, HasRight: true, Done: true}, {Count: -1, Done: true}} {
				s := impl.NewState(e)
				s.Cells[i] = c
				checkValidState(t, e, src, s, false)
			}
		}
		for n := range 15 {
			checkValidState(t, e, src, impl.State{Cells: make([]impl.Cell, n)}, n == len(e.Nodes))
		}
		checkValidState(t, e, src, impl.State{}, false)
	}
}

// TestStatesOfOtherSources: a state of some sources is none of shorter ones.
func TestStatesOfOtherSources(t *testing.T) {
	e := two(impl.NkChain)
	s := cells(impl.Cell{Count: 2}, impl.Cell{Count: 1}, impl.Cell{})
	checkValidState(t, e, [][]int{{1, 2}, {3}, {}}, s, true)
	checkValidState(t, e, [][]int{{1}, {3}, {}}, s, false)
	checkValidState(t, e, [][]int{{1, 2}, {}, {3, 4}}, s, false)
}

// TestChangedStates changes one number of valid states.
func TestChangedStates(t *testing.T) {
	valid, wrong := 0, 0
	eachPipe(t, 12, func(e impl.Pipe, src [][]int, d dice) {
		for range 10 {
			s := d.state(e, src)
			i := d.IntN(len(e.Nodes))
			c := &s.Cells[i]
			field := []*int{&c.Count, &c.Left, &c.Right}[d.IntN(3)]
			*field = []int{d.upTo(-3, 15), d.upTo(95, 105), wantMost(e.Nodes[i], src) + d.upTo(0, 1)}[d.IntN(3)]
			want := c.Count >= 0 && c.Count <= wantMost(e.Nodes[i], src) && min(c.Left, c.Right) >= 0 && max(c.Left, c.Right) <= 99
			checkValidState(t, e, src, s, want)
			if want {
				valid++
			} else {
				wrong++
			}
		}
	})
	if valid < 1000 || wrong < 1000 {
		t.Errorf("only %d valid and %d other states", valid, wrong)
	}
}

func TestStatesOfOtherArguments(t *testing.T) {
	src := [][]int{{1, 2, 3}, {10, 20}, {5}}
	for _, e := range badPipes() {
		if s := impl.NewState(e); len(s.Cells) > 0 {
			t.Errorf("NewState(%v) = %v", e, s)
		}
		checkValidState(t, e, src, impl.State{Cells: make([]impl.Cell, len(e.Nodes))}, false)
	}
	for _, bad := range badSources() {
		for _, e := range []impl.Pipe{tower(1), one(impl.NkTake, 0, 0), pipe(from(2)), two(impl.NkZip)} {
			checkValidState(t, e, bad, impl.NewState(e), false)
		}
	}
}
