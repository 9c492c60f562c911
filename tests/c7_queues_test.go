package tests

import (
	"math"
	"slices"
	"testing"

	"loop.example/pullstreams/impl"
)

// sameRun reports whether two runs are the same.
func sameRun(a, b impl.QueueRun) bool {
	same := slices.Equal(a.Queue, b.Queue) && slices.Equal(a.Out, b.Out)
	return same && a.Made == b.Made && a.Used == b.Used && a.Full == b.Full && a.Empty == b.Empty
}

// stepsOf returns the steps of a text: p is one of the producer, and c one of
// the consumer.
func stepsOf(text string) []bool {
	var steps []bool
	for _, letter := range text {
		steps = append(steps, letter == 'p')
	}
	return steps
}

// alike returns as many steps of one kind.
func alike(n int, producer bool) []bool {
	return slices.Repeat([]bool{producer}, n)
}

// steps returns steps: some by chance, some mostly or all of one kind, some in
// waves of each kind, some by turns, and some that are as many as there may be.
func (d dice) steps() []bool {
	n := []int{0, 1, d.upTo(2, 59), d.upTo(2, 59), 60}[d.IntN(5)]
	var steps []bool
	switch d.IntN(4) {
	case 0:
		return impl.FairSteps(n)
	case 1:
		for producer := d.IntN(2) == 0; len(steps) < n; producer = !producer {
			steps = append(steps, alike(d.upTo(1, 7), producer)...)
		}
		return steps[:n]
	}
	often, others := d.IntN(2) == 0, d.IntN(4)
	for range n {
		steps = append(steps, often != (d.IntN(4) < others))
	}
	return steps
}

// eachQueue calls a test for many valid arguments of RunQueue.
func eachQueue(t *testing.T, test func(e impl.Pipe, items []int, room int, steps []bool)) {
	t.Helper()
	d := newDice(71)
	for range 8000 {
		items, others := d.items(), d.items()
		if len(others) > len(items) { // longer ones do more in a queue
			items = others
		}
		test(d.pushLine(), items, d.upTo(1, 6), d.steps())
		if t.Failed() {
			return
		}
	}
}

// checkQueue holds the functions of a queue against the model.
func checkQueue(t *testing.T, e impl.Pipe, items []int, room int, steps []bool) {
	t.Helper()
	want, most := wantRunQueue(e, items, room, steps)
	if got := impl.RunQueue(e, items, room, steps); !sameRun(got, want) {
		t.Errorf("RunQueue(%v, %v, %d, %v) = %v, not %v", e, items, room, steps, got, want)
	}
	if got := impl.MostQueued(e, items, room, steps); got != most {
		t.Errorf("MostQueued(%v, %v, %d, %v) = %d, not %d", e, items, room, steps, got, most)
	}
}

// checkNoQueue checks the results for arguments that are not valid.
func checkNoQueue(t *testing.T, e impl.Pipe, items []int, room int, steps []bool) {
	t.Helper()
	if got := impl.RunQueue(e, items, room, steps); !sameRun(got, impl.QueueRun{}) {
		t.Errorf("RunQueue(%v, %v, %d, %v) = %v", e, items, room, steps, got)
	}
	if got := impl.MostQueued(e, items, room, steps); got != -1 {
		t.Errorf("MostQueued(%v, %v, %d, %v) = %d", e, items, room, steps, got)
	}
}

func TestQueuesAgainstTheModel(t *testing.T) {
	full, empty, left, none, whole := 0, 0, 0, 0, 0
	eachQueue(t, func(e impl.Pipe, items []int, room int, steps []bool) {
		checkQueue(t, e, items, room, steps)
		run, most := wantRunQueue(e, items, room, steps)
		full, empty = full+yes(run.Full > 0), empty+yes(run.Empty > 0)
		left += yes(most > len(run.Queue) && len(run.Queue) > 0)
		none, whole = none+yes(len(steps) == 0), whole+yes(len(steps) == 60)
	})
	if full < 1000 || empty < 1000 || left < 200 || none < 1000 || whole < 1000 {
		t.Errorf("only %d queues were full, %d empty, %d had more items in between, and %d and %d had no steps and all", full, empty, left, none, whole)
	}
}

func TestRunQueue(t *testing.T) {
	items := []int{1, 2, 3, 4, 5}
	batch, nothing, while := one(impl.NkBatch, 2, 0), one(impl.NkTake, 0, 0), one(impl.NkWhile, 2, 0)
	for _, c := range []struct {
		e     impl.Pipe
		items []int
		room  int
		steps string
		want  impl.QueueRun
		most  int
	}{
		{above(), items, 1, "", impl.QueueRun{}, 0},
		{above(), items, 6, "", impl.QueueRun{}, 0},
		{above(), items, 1, "p", impl.QueueRun{Queue: []int{1}, Made: 1}, 1},
		{above(), items, 1, "c", impl.QueueRun{Empty: 1}, 0},
		{above(), items, 1, "pc", impl.QueueRun{Out: []int{1}, Made: 1, Used: 1}, 1},
		{above(), items, 1, "cp", impl.QueueRun{Queue: []int{1}, Made: 1, Empty: 1}, 1},
		{above(), items, 1, "pppcccp", impl.QueueRun{Queue: []int{2}, Out: []int{1}, Made: 2, Used: 1, Full: 2, Empty: 2}, 1},
		{above(), items, 2, "pppcpc", impl.QueueRun{Queue: []int{3}, Out: []int{1, 2}, Made: 3, Used: 2, Full: 1}, 2},
		{above(), items, 3, "ppppccp", impl.QueueRun{Queue: []int{3, 4}, Out: []int{1, 2}, Made: 4, Used: 2, Full: 1}, 3},
		// A producer that has made all items does nothing, even if the queue is full.
		{above(), items[:2], 2, "pppp", impl.QueueRun{Queue: []int{1, 2}, Made: 2}, 2},
		{above(), items[:3], 2, "pppp", impl.QueueRun{Queue: []int{1, 2}, Made: 2, Full: 2}, 2},
		{above(), items[:2], 6, "ppppcccpp", impl.QueueRun{Out: []int{1, 2}, Made: 2, Used: 2, Empty: 1}, 2},
		{above(), nil, 1, "ppccp", impl.QueueRun{Empty: 2}, 0},
		// A consumer whose line takes none does nothing, even if the queue is empty.
		{nothing, items, 1, "cpcpc", impl.QueueRun{Queue: []int{1}, Made: 1, Full: 1}, 1},
		{nothing, nil, 6, "cpcpc", impl.QueueRun{}, 0},
		{one(impl.NkTake, 2, 0), items, 2, "pcpcccppp", impl.QueueRun{Queue: []int{3, 4}, Out: []int{1, 2}, Made: 4, Used: 2, Full: 1}, 2},
		{one(impl.NkTake, 5, 0), items, 6, "pppppcccccc", impl.QueueRun{Out: items, Made: 5, Used: 5}, 5},
		{one(impl.NkTake, 6, 0), items, 6, "pppppcccccc", impl.QueueRun{Out: items, Made: 5, Used: 5, Empty: 1}, 5},
		// The great item is used, and gives nothing.
		{while, items, 3, "pppccc", impl.QueueRun{Queue: []int{3}, Out: []int{1}, Made: 3, Used: 2}, 3},
		{while, items[:2], 3, "ppccc", impl.QueueRun{Out: []int{1}, Made: 2, Used: 2}, 2},
		// Sums wait for their last item, also after all items.
		{batch, items, 1, "pc", impl.QueueRun{Made: 1, Used: 1}, 1},
		{batch, items, 1, "pcpc", impl.QueueRun{Out: []int{3}, Made: 2, Used: 2}, 1},
		{batch, items, 6, "pppppccccc", impl.QueueRun{Out: []int{3, 7}, Made: 5, Used: 5}, 5},
		{batch, items, 6, "pppppcccccc", impl.QueueRun{Out: []int{3, 7}, Made: 5, Used: 5, Empty: 1}, 5},
		{above(stem(impl.NkBatch, 2), stem(impl.NkTake, 1)), items, 1, "pcpcpcpc", impl.QueueRun{Queue: []int{3}, Out: []int{3}, Made: 3, Used: 2, Full: 1}, 1},
		{above(stem(impl.NkTake, 1), stem(impl.NkBatch, 2)), items, 1, "pcpc", impl.QueueRun{Queue: []int{2}, Made: 2, Used: 1}, 1},
	} {
		steps := stepsOf(c.steps)
		got, most := impl.RunQueue(c.e, c.items, c.room, steps), impl.MostQueued(c.e, c.items, c.room, steps)
		if !sameRun(got, c.want) || most != c.most {
			t.Errorf("RunQueue(%v, %v, %d, %s) = %v, most %d, not %v, %d", c.e, c.items, c.room, c.steps, got, most, c.want, c.most)
		}
		checkQueue(t, c.e, c.items, c.room, steps)
	}
}

// TestStepsOfOneKind: the producer alone fills the queue, and the consumer alone
// finds it empty.
func TestStepsOfOneKind(t *testing.T) {
	for n := range 13 {
		items := upToItems(n)
		for room := 1; room <= 6; room++ {
			for _, k := range []int{0, 1, room, room + 1, 12, 59, 60} {
				inside := min(n, room, k)
				full := 0
				if n > inside {
					full = k - inside
				}
				for _, e := range []impl.Pipe{above(), one(impl.NkTake, 0, 0), one(impl.NkBatch, 3, 0)} {
					got := impl.RunQueue(e, items, room, alike(k, true))
					want := impl.QueueRun{Queue: items[:inside], Made: inside, Full: full}
					if !sameRun(got, want) || impl.MostQueued(e, items, room, alike(k, true)) != inside {
						t.Errorf("RunQueue(%v, %v, %d, %d of the producer) = %v", e, items, room, k, got)
					}
					empty := k * yes(impl.WantsMore(e, nil))
					got = impl.RunQueue(e, items, room, alike(k, false))
					if !sameRun(got, impl.QueueRun{Empty: empty}) || impl.MostQueued(e, items, room, alike(k, false)) != 0 {
						t.Errorf("RunQueue(%v, %v, %d, %d of the consumer) = %v", e, items, room, k, got)
					}
				}
			}
		}
	}
}

// TestMostSteps: the most items go through the least and the greatest room in
// the most steps.
func TestMostSteps(t *testing.T) {
	items := upToItems(12)
	for _, c := range []struct {
		room  int
		steps []bool
		want  impl.QueueRun
		most  int
	}{
		{1, impl.FairSteps(60), impl.QueueRun{Out: items, Made: 12, Used: 12, Empty: 18}, 1},
		{6, slices.Concat(alike(7, true), alike(7, false), alike(46, true)), impl.QueueRun{Queue: items[6:], Out: items[:6], Made: 12, Used: 6, Full: 1, Empty: 1}, 6},
		{6, slices.Concat(alike(30, true), alike(30, false)), impl.QueueRun{Out: items[:6], Made: 6, Used: 6, Full: 24, Empty: 24}, 6},
		{1, slices.Concat(alike(30, false), alike(30, true)), impl.QueueRun{Queue: items[:1], Made: 1, Full: 29, Empty: 30}, 1},
	} {
		got, most := impl.RunQueue(above(), items, c.room, c.steps), impl.MostQueued(above(), items, c.room, c.steps)
		if len(c.steps) != 60 || !sameRun(got, c.want) || most != c.most {
			t.Errorf("RunQueue of %d steps and the room %d = %v, most %d", len(c.steps), c.room, got, most)
		}
		checkQueue(t, above(), items, c.room, c.steps)
		checkNoQueue(t, above(), items, c.room, append(c.steps, true))
		checkNoQueue(t, above(), items, c.room, append(c.steps, false))
	}
}

func TestQueuesOfOtherArguments(t *testing.T) {
	items := []int{1, 2, 3}
	steps := stepsOf("ppcpc")
	for _, room := range []int{0, -1, 7, 8, 12, 60, math.MinInt, math.MaxInt} {
		for _, e := range []impl.Pipe{above(), one(impl.NkTake, 0, 0), one(impl.NkBatch, 2, 0)} {
			checkNoQueue(t, e, items, room, steps)
			checkNoQueue(t, e, nil, room, nil)
		}
	}
	for _, e := range noLines() {
		for _, some := range [][]bool{nil, steps, alike(60, true)} {
			checkNoQueue(t, e, items, 2, some)
			checkNoQueue(t, e, nil, 6, some)
		}
	}
	for _, bad := range badItems() {
		for _, e := range []impl.Pipe{above(), one(impl.NkTake, 1, 0)} {
			checkNoQueue(t, e, bad, 2, steps)
			checkNoQueue(t, e, bad, 1, nil)
		}
	}
	for _, n := range []int{61, 62, 100} {
		for _, producer := range []bool{false, true} {
			checkNoQueue(t, above(), items, 2, alike(n, producer))
			checkNoQueue(t, above(), nil, 2, alike(n, producer))
		}
	}
}

// TestP71QueuesKeepAllItemsInOrder: the items that were made are those that were
// used and those in the queue, and Out is PushOpen of those that were used.
func TestP71QueuesKeepAllItemsInOrder(t *testing.T) {
	eachQueue(t, func(e impl.Pipe, items []int, room int, steps []bool) {
		q := impl.RunQueue(e, items, room, steps)
		if q.Made > len(items) || q.Used > q.Made || !slices.Equal(items[:q.Made], slices.Concat(items[:q.Used], q.Queue)) {
			t.Fatalf("RunQueue(%v, %v, %d, %v) = %v", e, items, room, steps, q)
		}
		if open := impl.PushOpen(e, items[:q.Used]); !slices.Equal(q.Out, open) {
			t.Errorf("RunQueue(%v, %v, %d, %v) = %v, and PushOpen %v", e, items, room, steps, q, open)
		}
		if _, n := impl.PushAll(e, items[:q.Used]); n != q.Used {
			t.Errorf("RunQueue(%v, %v, %d, %v) = %v, and PushAll pushes %d", e, items, room, steps, q, n)
		}
	})
}

// TestP72NoOrderOfStepsGivesAnotherList: Out is a beginning of what PushAll
// gives, whatever the steps and the room are.
func TestP72NoOrderOfStepsGivesAnotherList(t *testing.T) {
	fewer := 0
	eachQueue(t, func(e impl.Pipe, items []int, room int, steps []bool) {
		all, _ := impl.PushAll(e, items)
		out := impl.RunQueue(e, items, room, steps).Out
		if len(out) > len(all) || !slices.Equal(out, all[:len(out)]) {
			t.Errorf("RunQueue(%v, %v, %d, %v) gives %v, which is not the beginning of %v", e, items, room, steps, out, all)
		}
		fewer += yes(0 < len(out) && len(out) < len(all))
	})
	if fewer < 300 {
		t.Errorf("only %d runs gave just some items", fewer)
	}
	// Each order of few steps.
	e := above(stem(impl.NkBatch, 2), stem(impl.NkScan, 0))
	items := []int{4, 5, 6, 7}
	for order := range 1 << 9 {
		var steps []bool
		for i := range 9 {
			steps = append(steps, order>>i&1 == 1)
		}
		for room := 1; room <= 4; room++ {
			out := impl.RunQueue(e, items, room, steps).Out
			if !slices.Equal(out, []int{9, 22}[:len(out)]) {
				t.Errorf("RunQueue(.., %d, %v) gives %v", room, steps, out)
			}
			checkQueue(t, e, items, room, steps)
		}
	}
}

// TestP73FairStepsGiveAll: with twice as many FairSteps as items Used is as many
// as PushAll pushes, Out is PushOpen of all items, and Full is 0, if all items
// are pushed.
func TestP73FairStepsGiveAll(t *testing.T) {
	all, some := 0, 0
	eachPush(t, func(e impl.Pipe, items []int, _ dice) {
		_, pushed := impl.PushAll(e, items)
		open := impl.PushOpen(e, items)
		for room := 1; room <= 6; room++ {
			q := impl.RunQueue(e, items, room, impl.FairSteps(2*len(items)))
			if q.Used != pushed || q.Empty != 0 || !slices.Equal(q.Out, open) {
				t.Errorf("RunQueue(%v, %v, %d, fair) = %v, but %d are pushed, and give %v", e, items, room, q, pushed, open)
			}
			if pushed == len(items) && (q.Full != 0 || q.Made != pushed) {
				t.Errorf("RunQueue(%v, %v, %d, fair) = %v, though all are pushed", e, items, room, q)
			}
			// What is not pushed stays in the queue, as far as there is room.
			if left := min(room, len(items)-pushed); len(q.Queue) != left || q.Full != len(items)-pushed-left {
				t.Errorf("RunQueue(%v, %v, %d, fair) = %v, and %d are pushed", e, items, room, q, pushed)
			}
		}
		all, some = all+yes(pushed == len(items)), some+yes(pushed < len(items))
	})
	if all < 1000 || some < 1000 {
		t.Errorf("only %d lines want all items, and %d do not", all, some)
	}
}

// TestP74QueuesHaveRoom: MostQueued is at most the room, and at least what is in
// the queue at the end. It is what is in the queue after some of the steps.
func TestP74QueuesHaveRoom(t *testing.T) {
	between, whole := 0, 0
	eachQueue(t, func(e impl.Pipe, items []int, room int, steps []bool) {
		most := impl.MostQueued(e, items, room, steps)
		end := len(impl.RunQueue(e, items, room, steps).Queue)
		if most > room || most < end {
			t.Errorf("MostQueued(%v, %v, %d, %v) = %d, and %d at the end", e, items, room, steps, most, end)
		}
		greatest := 0
		for k := range len(steps) + 1 {
			greatest = max(greatest, len(impl.RunQueue(e, items, room, steps[:k]).Queue))
		}
		if most != greatest {
			t.Errorf("MostQueued(%v, %v, %d, %v) = %d, not %d", e, items, room, steps, most, greatest)
		}
		between, whole = between+yes(most > end), whole+yes(most == room)
	})
	if between < 1000 || whole < 1000 {
		t.Errorf("only %d runs had more in between, and %d were full", between, whole)
	}
}

// TestP75FairStepsGoByTurns: of two of FairSteps next to each other just one is
// true, and the first one is.
func TestP75FairStepsGoByTurns(t *testing.T) {
	for n := range 61 {
		steps := impl.FairSteps(n)
		if len(steps) != n || n > 0 && !steps[0] {
			t.Fatalf("FairSteps(%d) = %v", n, steps)
		}
		for i := 1; i < n; i++ {
			if steps[i] == steps[i-1] {
				t.Errorf("FairSteps(%d) = %v has two alike at %d", n, steps, i)
			}
		}
	}
	for _, n := range []int{-1, 61, 62, 120, math.MinInt, math.MaxInt} {
		if steps := impl.FairSteps(n); len(steps) > 0 {
			t.Errorf("FairSteps(%d) = %v", n, steps)
		}
	}
}
