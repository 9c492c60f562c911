package tests

import (
	"math"
	"testing"

	"loop.example/pullstreams/impl"
)

// callsOfPushes returns a call of each function of the chapter. The source 0 has
// the items, and the number is the room, or how many steps there are.
func callsOfPushes() []call {
	return []call{
		{"PushAll", func(w world) result {
			given, n := impl.PushAll(w.e, w.src[0])
			return result{list: given, lists: [][]int{{n}}}
		}},
		asList("PushOpen", func(w world) []int { return impl.PushOpen(w.e, w.src[0]) }),
		asNumber("WantsMore", func(w world) int { return yes(impl.WantsMore(w.e, w.src[0])) }),
		asList("LineOf", func(w world) []int { return impl.LineOf(w.e) }),
		{"RunQueue", func(w world) result {
			q := impl.RunQueue(w.e, w.src[0], w.k, w.steps)
			return result{list: []int{q.Made, q.Used, q.Full, q.Empty}, lists: [][]int{q.Queue, q.Out}}
		}},
		asNumber("MostQueued", func(w world) int { return impl.MostQueued(w.e, w.src[0], w.k, w.steps) }),
		{"FairSteps", func(w world) result { return result{steps: impl.FairSteps(w.k)} }},
	}
}

func TestMemoryOfPushes(t *testing.T) {
	calls := callsOfPushes()
	check := func(e impl.Pipe, items []int, room int, steps []bool) {
		w := newWorld(e, [][]int{items}).withSteps(steps, room)
		for _, x := range calls {
			checkMemory(t, x, w)
		}
	}
	eachQueue(t, check)
	for _, e := range noLines() {
		check(e, []int{1, 2, 3}, 2, stepsOf("pppcc"))
	}
	for _, items := range badItems() {
		check(above(), items, 2, stepsOf("pppcc"))
	}
	for _, n := range []int{0, 7, 60, 61, math.MinInt, math.MaxInt} {
		check(above(), []int{1, 2, 3}, n, stepsOf("pppcc"))
		check(above(), []int{1, 2, 3}, 2, alike(min(max(n, 0), 61), true))
	}
}

// TestAnyPushes calls all functions with any numbers: they return, and have the
// fixed result for arguments that are not valid.
func TestAnyPushes(t *testing.T) {
	d := newDice(75)
	any := func() int {
		return []int{0, 1, 2, d.upTo(-2, 14), 99, 100, math.MinInt, math.MaxInt}[d.IntN(8)]
	}
	valid, others := 0, 0
	for range 20000 {
		e, items, room, steps := d.pushLine(), d.items(), d.upTo(1, 6), d.steps()
		switch d.IntN(8) {
		case 0:
			n := &e.Nodes[d.IntN(len(e.Nodes))]
			*[]*int{&n.Kind, &n.A, &n.B, &n.N, &n.M}[d.IntN(5)] = any()
		case 1:
			e.Nodes = append(e.Nodes, node(d.upTo(-1, 15), any(), -1, any(), 0))
		case 2:
			items = append(items, any())
		case 3:
			room = any()
		case 4:
			steps = append(steps, true)
		case 5:
			e = d.pipe(d.upTo(1, 12))
		}
		if wantLine(e) && wantItems(items) {
			checkPush(t, e, items)
		} else {
			checkNoPush(t, e, items)
		}
		good := wantSteps(e, items, room, steps)
		valid, others = valid+yes(good), others+yes(!good)
		if good {
			checkQueue(t, e, items, room, steps)
		} else {
			checkNoQueue(t, e, items, room, steps)
		}
		if n := any(); n < 0 || n > 60 {
			if got := impl.FairSteps(n); len(got) > 0 {
				t.Errorf("FairSteps(%d) = %v", n, got)
			}
		}
		if got := impl.LineOf(e); len(got) > 0 != wantLine(e) {
			t.Errorf("LineOf(%v) = %v", e, got)
		}
		if t.Failed() {
			return
		}
	}
	if valid < 1000 || others < 1000 {
		t.Errorf("only %d valid and %d other runs", valid, others)
	}
}
