package tests

import (
	"math"
	"slices"
	"testing"

	"loop.example/pullstreams/impl"
)

// above returns a line of the source 0 with nodes above it, each over the one
// ahead of it.
func above(nodes ...impl.Node) impl.Pipe {
	e := pipe(from(0))
	for i, n := range nodes {
		n.A, n.B = i, -1
		e.Nodes = append(e.Nodes, n)
	}
	return e
}

// stem returns a node with one below, for above.
func stem(kind, n int) impl.Node {
	return over(kind, -1, n, 0)
}

// pushLine returns a valid line: some of any kinds, and some of kinds that stop
// the pushes or wait.
func (d dice) pushLine() impl.Pipe {
	e := d.lineOf([]int{1, 2, 3, d.upTo(4, 11), 12}[d.IntN(5)])
	if d.IntN(2) == 0 {
		return e
	}
	for i := range e.Nodes[1:] {
		n := &e.Nodes[i+1]
		n.Kind = []int{impl.NkTake, impl.NkWhile, impl.NkBatch, impl.NkBatch, impl.NkMap, impl.NkScan}[d.IntN(6)]
		n.N, n.M = d.numbers(n.Kind)
		switch {
		case n.Kind == impl.NkTake && d.IntN(4) > 0:
			n.N = d.upTo(1, 12)
		case n.Kind == impl.NkWhile && d.IntN(4) > 0:
			n.N = d.upTo(10, 99)
		}
	}
	return e
}

// items returns valid items, none and as many as there may be among them.
func (d dice) items() []int {
	var out []int
	great := []int{1, 5, 20, 99}[d.IntN(4)]
	for range []int{0, 1, d.upTo(2, 11), d.upTo(2, 11), 12}[d.IntN(5)] {
		out = append(out, d.upTo(0, great))
	}
	return out
}

// eachPush calls a test for many valid lines and items.
func eachPush(t *testing.T, test func(e impl.Pipe, items []int, d dice)) {
	t.Helper()
	d := newDice(67)
	for range 6000 {
		test(d.pushLine(), d.items(), d)
		if t.Failed() {
			return
		}
	}
}

// noLines returns pipes that are not valid, or no lines.
func noLines() []impl.Pipe {
	out := append(badPipes(), tangled())
	for _, kind := range kindsOfTwo {
		out = append(out, two(kind), putOnTop(two(kind)), pipe(from(0), from(0), both(kind, 0, 1)))
		out = append(out, pipe(from(0), over(impl.NkTake, 0, 0, 0), from(1), both(kind, 1, 2)))
	}
	return out
}

// putOnTop returns a pipe with one more node on its end.
func putOnTop(e impl.Pipe) impl.Pipe {
	e.Nodes = append(e.Nodes, over(impl.NkTake, len(e.Nodes)-1, 2, 0))
	return e
}

// checkPush holds all functions of pushes against the model.
func checkPush(t *testing.T, e impl.Pipe, items []int) {
	t.Helper()
	want, pushed := wantGiven(e, items), len(wantPushed(e, items))
	if got, n := impl.PushAll(e, items); !slices.Equal(got, want) || n != pushed {
		t.Errorf("PushAll(%v, %v) = %v, %d, not %v, %d", e, items, got, n, want, pushed)
	}
	if got, open := impl.PushOpen(e, items), wantOpen(e, items); !slices.Equal(got, open) {
		t.Errorf("PushOpen(%v, %v) = %v, not %v", e, items, got, open)
	}
	if got, more := impl.WantsMore(e, items), wantMore(e, wantPushed(e, items)); got != more {
		t.Errorf("WantsMore(%v, %v) = %v", e, items, got)
	}
}

// checkNoPush checks the results for arguments that are not valid.
func checkNoPush(t *testing.T, e impl.Pipe, items []int) {
	t.Helper()
	if got, n := impl.PushAll(e, items); len(got) > 0 || n != -1 {
		t.Errorf("PushAll(%v, %v) = %v, %d", e, items, got, n)
	}
	if got := impl.PushOpen(e, items); len(got) > 0 {
		t.Errorf("PushOpen(%v, %v) = %v", e, items, got)
	}
	if impl.WantsMore(e, items) {
		t.Errorf("WantsMore(%v, %v) = true", e, items)
	}
}

func TestPushesAgainstTheModel(t *testing.T) {
	still, middle, waits, whole := 0, 0, 0, 0
	eachPush(t, func(e impl.Pipe, items []int, _ dice) {
		checkPush(t, e, items)
		pushed := len(wantPushed(e, items))
		still += yes(pushed == 0 && len(items) > 0)
		middle += yes(0 < pushed && pushed < len(items))
		waits += yes(len(wantGiven(e, items)) > len(wantOpen(e, items)))
		whole += yes(pushed == 12)
	})
	if still < 100 || middle < 800 || waits < 500 || whole < 200 {
		t.Errorf("only %d lines want nothing, %d stop in the middle, %d have last sums, and %d want all of 12 items", still, middle, waits, whole)
	}
}

// TestPushesOfEachKind: each kind with many numbers, alone and below or above a
// kind that stops the pushes or waits.
func TestPushesOfEachKind(t *testing.T) {
	lists := [][]int{nil, {0}, {99}, {1, 2, 3}, {2, 2, 1, 1, 2}, {60, 70, 80, 90}, upToItems(12), {0, 1, 2, 3, 4, 5, 6, 7, 8, 9, 10, 11}}
	others := []impl.Node{stem(impl.NkTake, 0), stem(impl.NkTake, 2), stem(impl.NkWhile, 3), stem(impl.NkBatch, 2), stem(impl.NkBatch, 5), over(impl.NkFilter, -1, 2, 1)}
	for _, kind := range kindsOfOne {
		for n := range 100 {
			for _, m := range []int{0, 1, 2, 99} {
				if !wantFit(over(kind, 0, n, m)) {
					continue
				}
				for _, items := range lists {
					checkPush(t, one(kind, n, m), items)
					for _, other := range others {
						checkPush(t, above(over(kind, 0, n, m), other), items)
						checkPush(t, above(other, over(kind, 0, n, m)), items)
					}
				}
			}
		}
	}
}

func TestPushAll(t *testing.T) {
	take, while, batch := func(n int) impl.Node { return stem(impl.NkTake, n) }, func(n int) impl.Node { return stem(impl.NkWhile, n) }, func(n int) impl.Node { return stem(impl.NkBatch, n) }
	scan, drop := stem(impl.NkScan, 0), func(n int) impl.Node { return stem(impl.NkDrop, n) }
	items := []int{1, 2, 3, 4, 5}
	for _, c := range []struct {
		e      impl.Pipe
		items  []int
		all    []int
		pushed int
		open   []int
		more   bool
	}{
		{above(), items, items, 5, items, true},
		{pipe(from(2)), items, items, 5, items, true},
		{above(), nil, nil, 0, nil, true},
		{above(), upToItems(12), upToItems(12), 12, upToItems(12), true},
		// Lines that want nothing from the start.
		{above(take(0)), items, nil, 0, nil, false},
		{above(take(0)), nil, nil, 0, nil, false},
		{above(batch(1), scan, take(0)), items, nil, 0, nil, false},
		{above(take(0), scan, batch(2)), items, nil, 0, nil, false},
		{above(take(3), take(0), take(3)), items, nil, 0, nil, false},
		{above(batch(5), take(0), batch(5)), items, nil, 0, nil, false},
		// All items are as many as are taken, one less, and one more.
		{above(take(5)), items, items, 5, items, false},
		{above(take(4)), items, items[:4], 4, items[:4], false},
		{above(take(6)), items, items, 5, items, true},
		{above(take(12)), upToItems(12), upToItems(12), 12, upToItems(12), false},
		{above(take(12)), upToItems(11), upToItems(11), 11, upToItems(11), true},
		{above(take(3), take(2)), items, items[:2], 2, items[:2], false},
		{above(take(2), take(3)), items, items[:2], 2, items[:2], false},
		// What a node below lets through is counted, not what is pushed.
		{above(over(impl.NkFilter, 0, 2, 0), take(1)), items, []int{2}, 2, []int{2}, false},
		{above(take(1), over(impl.NkFilter, 0, 2, 0)), items, nil, 1, nil, false},
		{above(drop(2), take(1)), items, []int{3}, 3, []int{3}, false},
		{above(take(1), drop(2)), items, nil, 1, nil, false},
		{above(stem(impl.NkSkip, 3), take(2)), items, []int{3, 4}, 4, []int{3, 4}, false},
		{above(stem(impl.NkOnce, 0), take(2)), []int{7, 7, 7, 8, 9}, []int{7, 8}, 4, []int{7, 8}, false},
		// The great item is pushed, too, and is the last one.
		{above(while(3)), items, []int{1, 2}, 3, []int{1, 2}, false},
		{above(while(5)), items, items[:4], 5, items[:4], false},
		{above(while(6)), items, items, 5, items, true},
		{above(while(0)), items, nil, 1, nil, false},
		{above(while(0)), nil, nil, 0, nil, true},
		{above(scan, while(6)), items, []int{1, 3}, 3, []int{1, 3}, false},
		{above(while(3), while(2)), items, []int{1}, 2, []int{1}, false},
		{above(while(2), while(3)), items, []int{1}, 2, []int{1}, false},
		{above(while(3), take(2)), items, []int{1, 2}, 2, []int{1, 2}, false},
		{above(while(3), take(3)), items, []int{1, 2}, 3, []int{1, 2}, false},
		// Sums wait until they are full, or until the end.
		{above(batch(2)), items, []int{3, 7, 5}, 5, []int{3, 7}, true},
		{above(batch(5)), items, []int{15}, 5, []int{15}, true},
		{above(batch(6)), items, []int{15}, 5, nil, true},
		{above(batch(1)), items, items, 5, items, true},
		{above(batch(30)), nil, nil, 0, nil, true},
		{above(batch(2)), []int{60, 70, 99, 1}, []int{30, 0}, 4, []int{30, 0}, true},
		{above(batch(2)), []int{60, 70, 0}, []int{30, 0}, 3, []int{30}, true},
		{above(batch(3), scan), items, []int{6, 15}, 5, []int{6}, true},
		{above(scan, batch(3)), items, []int{10, 25}, 5, []int{10}, true},
		// A line that stops gives on its last sums, too.
		{above(take(3), batch(2)), items, []int{3, 3}, 3, []int{3}, false},
		{above(while(4), batch(2)), items, []int{3, 3}, 4, []int{3}, false},
		{above(take(4), batch(2)), items, []int{3, 7}, 4, []int{3, 7}, false},
		// What stops at a full sum keeps nothing back, and the last sum is taken, too.
		{above(batch(2), take(1)), items, []int{3}, 2, []int{3}, false},
		{above(batch(2), take(1)), items[:1], []int{1}, 1, nil, true},
		{above(batch(2), take(3)), items, []int{3, 7, 5}, 5, []int{3, 7}, true},
		{above(batch(2), while(7)), items, []int{3}, 4, []int{3}, false},
		{above(batch(4), while(5)), items, nil, 4, nil, false},
		{above(batch(4), while(5)), items[:2], []int{3}, 2, nil, true},
		{above(batch(4), while(5)), items[:3], nil, 3, nil, true}, // the last sum is too great
		// Several batches behind each other: the last sum of one may fill the next one.
		{above(batch(2), batch(2)), items, []int{10, 5}, 5, []int{10}, true},
		{above(batch(2), batch(2)), items[:4], []int{10}, 4, []int{10}, true},
		{above(batch(2), batch(2)), items[:3], []int{6}, 3, nil, true},
		{above(batch(2), batch(2)), items[:2], []int{3}, 2, nil, true},
		{above(batch(2), batch(3), batch(2)), items, []int{15}, 5, nil, true},
		{above(batch(2), scan, batch(2)), items, []int{13, 15}, 5, []int{13}, true},
		{above(batch(2), batch(2), take(1)), items, []int{10}, 4, []int{10}, false},
		{above(batch(2), batch(2), take(1)), items[:3], []int{6}, 3, nil, true},
		{above(batch(2), take(2), batch(3), batch(2)), items, []int{10}, 4, nil, false},
		{above(batch(2), over(impl.NkFilter, 0, 2, 0), batch(2)), []int{1, 1, 2}, []int{4}, 3, nil, true},
		{above(batch(2), stem(impl.NkOnce, 0), batch(2)), []int{1, 1, 2}, []int{2}, 3, nil, true},
		{above(batch(2), drop(1), batch(2)), items, []int{12}, 5, nil, true},
	} {
		got, n := impl.PushAll(c.e, c.items)
		open, more := impl.PushOpen(c.e, c.items), impl.WantsMore(c.e, c.items)
		if !slices.Equal(got, c.all) || n != c.pushed || !slices.Equal(open, c.open) || more != c.more {
			t.Errorf("PushAll(%v, %v) = %v, %d, open %v, more %v", c.e, c.items, got, n, open, more)
		}
		checkPush(t, c.e, c.items)
	}
}

// TestLongestLine: the most nodes, with the greatest numbers.
func TestLongestLine(t *testing.T) {
	e := above(stem(impl.NkTake, 30), stem(impl.NkBatch, 30), stem(impl.NkWhile, 99), stem(impl.NkSkip, 0), stem(impl.NkDrop, 0), over(impl.NkMap, 0, 99, 99), stem(impl.NkScan, 0), stem(impl.NkOnce, 0), over(impl.NkFilter, 0, 1, 0), stem(impl.NkTake, 1), stem(impl.NkBatch, 1))
	if len(e.Nodes) != 12 {
		t.Fatalf("the line has %d nodes", len(e.Nodes))
	}
	for n := range 13 {
		checkPush(t, e, slices.Repeat([]int{8}, n))
		checkPush(t, tower(12), upToItems(n))
	}
	if got, n := impl.PushAll(e, slices.Repeat([]int{8}, 12)); !slices.Equal(got, []int{3}) || n != 12 {
		t.Errorf("PushAll = %v, %d", got, n)
	}
}

func TestPushesOfOtherArguments(t *testing.T) {
	for _, e := range noLines() {
		for _, items := range [][]int{nil, {1}, {1, 2, 3}, upToItems(12), {100}} {
			checkNoPush(t, e, items)
		}
		if got := impl.LineOf(e); len(got) > 0 {
			t.Errorf("LineOf(%v) = %v", e, got)
		}
	}
	lines := []impl.Pipe{above(), tower(12), one(impl.NkTake, 0, 0), one(impl.NkTake, 1, 0), one(impl.NkBatch, 2, 0)}
	for _, bad := range badItems() {
		for _, e := range lines {
			checkNoPush(t, e, bad) // also where the bad item would not be pushed
		}
	}
	for _, n := range []impl.Node{stem(impl.NkTake, 31), stem(impl.NkTake, -1), stem(impl.NkBatch, 0), stem(impl.NkWhile, 100), stem(impl.NkDrop, math.MaxInt), over(impl.NkScan, 0, 0, 1)} {
		checkNoPush(t, above(n), []int{1, 2, 3})
		checkNoPush(t, above(stem(impl.NkTake, 1), n), nil)
	}
}

// TestP67PushesGiveWhatPullsGive: what PushAll gives is ListOf, and it pushes as
// many items as DrainAll pulls.
func TestP67PushesGiveWhatPullsGive(t *testing.T) {
	eachPush(t, func(e impl.Pipe, items []int, _ dice) {
		src := onLine(e, items)
		list, pulls := impl.DrainAll(e, src)
		pulled := 0
		for _, p := range pulls {
			pulled += yes(p.Item >= 0)
		}
		got, n := impl.PushAll(e, items)
		if !slices.Equal(got, impl.ListOf(e, src)) || !slices.Equal(got, list) || n != pulled {
			t.Errorf("PushAll(%v, %v) = %v, %d, and pulled it is %v, %d", e, items, got, n, list, pulled)
		}
	})
}

// TestP68BatchesWait: PushOpen is a beginning of what PushAll gives, and all of
// it for a line without NkBatch.
func TestP68BatchesWait(t *testing.T) {
	without := 0
	eachPush(t, func(e impl.Pipe, items []int, _ dice) {
		open := impl.PushOpen(e, items)
		all, _ := impl.PushAll(e, items)
		if len(open) > len(all) || !slices.Equal(open, all[:len(open)]) {
			t.Errorf("PushOpen(%v, %v) = %v is not the beginning of %v", e, items, open, all)
		}
		if slices.Contains(impl.LineOf(e), impl.NkBatch) {
			return
		}
		if !slices.Equal(open, all) {
			t.Errorf("PushOpen(%v, %v) = %v, and all is %v", e, items, open, all)
		}
		without += yes(len(all) > 0)
	})
	if without < 300 {
		t.Errorf("only %d lines without batches gave items", without)
	}
}

// TestP69WhoeverWantsNoMoreIsGivenNoMore: without WantsMore PushAll of any more
// items pushes no more, and gives the same. With it one more is pushed.
func TestP69WhoeverWantsNoMoreIsGivenNoMore(t *testing.T) {
	nothing, more := 0, 0
	eachPush(t, func(e impl.Pipe, items []int, d dice) {
		all, n := impl.PushAll(e, items)
		wants := impl.WantsMore(e, items)
		if wants && n != len(items) {
			t.Errorf("WantsMore(%v, %v), and PushAll pushes %d", e, items, n)
		}
		longer := slices.Clone(items)
		for len(longer) < 12 {
			longer = append(longer, d.upTo(0, 99))
			got, pushed := impl.PushAll(e, longer)
			if wants && pushed <= len(items) {
				t.Errorf("WantsMore(%v, %v), and PushAll of %v pushes %d", e, items, longer, pushed)
			}
			if !wants && (pushed != n || !slices.Equal(got, all) || impl.WantsMore(e, longer)) {
				t.Errorf("not WantsMore(%v, %v), and PushAll of %v = %v, %d, not %v, %d", e, items, longer, got, pushed, all, n)
			}
			nothing, more = nothing+yes(!wants), more+yes(wants)
		}
	})
	if nothing < 3000 || more < 3000 {
		t.Errorf("only %d and %d longer lists", nothing, more)
	}
}

// TestP70LinesBeginWithTheirSource: LineOf has a Kind for each node, NkSource
// first, and the last one is that of the end.
func TestP70LinesBeginWithTheirSource(t *testing.T) {
	eachPush(t, func(e impl.Pipe, _ []int, _ dice) {
		got := impl.LineOf(e)
		if len(got) != len(e.Nodes) || got[0] != impl.NkSource || got[len(got)-1] != e.Nodes[len(e.Nodes)-1].Kind {
			t.Fatalf("LineOf(%v) = %v", e, got)
		}
		// Each node is the end of its part.
		for i, kind := range got {
			if part := impl.PartOf(e, i); len(part.Nodes) != i+1 || part.Nodes[i].Kind != kind {
				t.Errorf("LineOf(%v) = %v, and a part is %v", e, got, part)
			}
		}
	})
	eachPipe(t, 8, func(e impl.Pipe, _ [][]int, _ dice) {
		if got := impl.LineOf(e); len(got) > 0 != impl.IsLine(e) {
			t.Errorf("LineOf(%v) = %v", e, got)
		}
	})
	if got := impl.LineOf(pipe(from(2))); !slices.Equal(got, []int{impl.NkSource}) {
		t.Errorf("LineOf a source = %v", got)
	}
}
