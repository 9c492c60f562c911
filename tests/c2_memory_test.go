package tests

import (
	"math"
	"testing"

	"loop.example/pullstreams/impl"
)

// callsOfPulls returns a call of each function of the chapter.
func callsOfPulls() []call {
	return []call{
		asNumber("ValidState", func(w world) int { return yes(impl.ValidState(w.e, w.src, w.s)) }),
		asState("NewState", func(w world) impl.State { return impl.NewState(w.e) }),
		{"NextItem", func(w world) result {
			s, x, ok := impl.NextItem(w.e, w.src, w.s)
			return result{list: []int{x, yes(ok)}, s: s}
		}},
		asList("FirstItems", func(w world) []int { return impl.FirstItems(w.e, w.src, w.k) }),
		asState("StateAfter", func(w world) impl.State { return impl.StateAfter(w.e, w.src, w.k) }),
		{"PullsOf", func(w world) result { return result{pulls: impl.PullsOf(w.e, w.src, w.k)} }},
		{"DrainAll", func(w world) result {
			items, pulls := impl.DrainAll(w.e, w.src)
			return result{list: items, pulls: pulls}
		}},
		asNumber("IsEnded", func(w world) int { return yes(impl.IsEnded(w.e, w.src, w.k)) }),
		asList("DoneNodes", func(w world) []int { return impl.DoneNodes(w.e, w.src, w.k) }),
	}
}

func TestMemoryOfPulls(t *testing.T) {
	calls := callsOfPulls()
	check := func(w world) {
		for _, c := range calls {
			checkMemory(t, c, w)
		}
	}
	eachPipe(t, 12, func(e impl.Pipe, src [][]int, d dice) {
		check(newWorld(e, src).withState(d.state(e, src), d.upTo(0, 20)))
	})
	src := [][]int{{1, 1, 2, 50}, {3, 40, 5}, {}}
	for _, k := range []int{-1, 0, 1, 199, 200, 201} {
		check(newWorld(tangled(), src).withState(impl.NewState(tangled()), k))
	}
	for _, e := range badPipes() {
		check(newWorld(e, src).withState(impl.State{Cells: make([]impl.Cell, len(e.Nodes))}, 3))
	}
	for _, bad := range badSources() {
		check(newWorld(tangled(), bad).withState(impl.NewState(tangled()), 3))
	}
}

// TestAnyPulls calls all functions with any numbers: they return, and have no
// result for arguments that are not valid.
func TestAnyPulls(t *testing.T) {
	d := newDice(6)
	any := func() int {
		return []int{0, 1, 2, d.upTo(-2, 14), 100, math.MinInt, math.MaxInt}[d.IntN(7)]
	}
	for range 20000 {
		e, src := d.pipe(d.upTo(1, 4)), d.src()
		switch d.IntN(3) {
		case 0:
			n := &e.Nodes[d.IntN(len(e.Nodes))]
			*n = node(d.upTo(-1, 14), any(), any(), any(), any())
		case 1:
			src[d.IntN(3)] = []int{any(), any()}
		}
		var s impl.State
		for range d.upTo(len(e.Nodes)-d.IntN(2), len(e.Nodes)) {
			s.Cells = append(s.Cells, impl.Cell{Count: any(), Left: any(), Right: any(), HasLeft: d.IntN(2) == 0, Done: d.IntN(2) == 0})
		}
		k := []int{any(), 199, 200, 201}[d.IntN(4)]
		checkValidState(t, e, src, s, impl.ValidState(e, src, s))
		good := wantValid(e) && impl.ValidSources(src)
		if !good && impl.ValidState(e, src, s) {
			t.Fatalf("ValidState(%v, %v, %v) = true", e, src, s)
		}
		if !good || k < 0 || k > 200 {
			checkNothing(t, e, src, k)
		} else if len(impl.StateAfter(e, src, k).Cells) != len(e.Nodes) {
			t.Fatalf("StateAfter(%v, %v, %d) has no result", e, src, k)
		}
	}
}
