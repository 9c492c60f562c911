package tests

import (
	"math"
	"testing"

	"loop.example/pullstreams/impl"
)

// callsOfCosts returns a call of each function of the chapter.
func callsOfCosts() []call {
	return []call{
		asList("CountsAfter", func(w world) []int { return impl.CountsAfter(w.e, w.src, w.k) }),
		asNumber("TotalPulls", func(w world) int { return impl.TotalPulls(w.e, w.src, w.k) }),
		asList("ReachedBy", func(w world) []int { return impl.ReachedBy(w.e, w.src, w.k) }),
		{"CutSources", func(w world) result { return result{lists: impl.CutSources(w.src, w.to)} }},
		asList("PullTable", func(w world) []int { return impl.PullTable(w.e, w.src) }),
		asNumber("LongestWait", func(w world) int { return impl.LongestWait(w.e, w.src) }),
		asNumber("PullFor", func(w world) int { return impl.PullFor(w.e, w.src, 0, 1) }),
		asList("LeftOver", func(w world) []int { return impl.LeftOver(w.e, w.src) }),
		asNumber("SeesEnd", func(w world) int { return yes(impl.SeesEnd(w.e, w.src, 0, w.k)) }),
		asNumber("SameView", func(w world) int { return yes(impl.SameView(w.e, w.src, w.other, w.k)) }),
	}
}

func TestMemoryOfCosts(t *testing.T) {
	calls := callsOfCosts()
	check := func(w world) {
		for _, c := range calls {
			checkMemory(t, c, w)
		}
	}
	eachPipe(t, 12, func(e impl.Pipe, src [][]int, d dice) {
		counts := []int{d.upTo(0, 13), d.upTo(0, 13), d.upTo(0, 13)}
		check(newWorld(e, src).withOther(d.changed(src), counts, d.upTo(0, 20)))
	})
	src := [][]int{{1, 1, 2, 50}, {3, 40, 5}, {}}
	for _, k := range []int{-1, 0, 1, 199, 200, 201} {
		for _, counts := range [][]int{{0, 0, 0}, {12, 12, 12}, {4, 3, 0}, {1, -1, 1}, {1, 1}, {1, 1, 1, 1}, nil} {
			check(newWorld(tangled(), src).withOther(src, counts, k))
		}
	}
	for _, e := range badPipes() {
		check(newWorld(e, src).withOther(src, []int{1, 2, 3}, 3))
	}
	for _, bad := range badSources() {
		check(newWorld(tangled(), bad).withOther(src, []int{1, 2, 3}, 3))
		check(newWorld(tangled(), src).withOther(bad, []int{1, 2, 3}, 3))
	}
}

// TestAnyCosts calls all functions with any numbers: they return, and have the
// fixed result for arguments that are not valid.
func TestAnyCosts(t *testing.T) {
	d := newDice(7)
	any := func() int {
		return []int{0, 1, 2, d.upTo(-2, 14), 100, math.MinInt, math.MaxInt}[d.IntN(7)]
	}
	for range 20000 {
		e, src := d.pipe(d.upTo(1, 4)), d.src()
		other := d.changed(src)
		switch d.IntN(4) {
		case 0:
			n := &e.Nodes[d.IntN(len(e.Nodes))]
			*n = node(d.upTo(-1, 14), any(), any(), any(), any())
		case 1:
			src[d.IntN(3)] = []int{any(), any()}
		case 2:
			other[d.IntN(3)] = []int{any(), any()}
		}
		k, s, i := []int{any(), 199, 200, 201}[d.IntN(4)], any(), any()
		counts := []int{any(), any(), any()}
		cut, first := impl.CutSources(src, counts), impl.PullFor(e, src, s, i)
		seen, same := impl.SeesEnd(e, src, s, k), impl.SameView(e, src, other, k)
		if (len(cut) > 0) != (impl.ValidSources(src) && min(counts[0], counts[1], counts[2]) >= 0) {
			t.Fatalf("CutSources(%v, %v) = %v", src, counts, cut)
		}
		if (s < 0 || s > 2 || i < 0 || i > 11) && first != -1 || (s < 0 || s > 2) && seen {
			t.Fatalf("PullFor or SeesEnd of the source %d have a result: %d, %v", s, first, seen)
		}
		if !impl.ValidSources(other) && same {
			t.Fatalf("SameView(%v, %v, %v, %d) = true", e, src, other, k)
		}
		good := wantValid(e) && impl.ValidSources(src)
		if !good {
			checkNoTable(t, e, src)
		}
		if !good || k < 0 || k > 200 {
			checkNoCosts(t, e, src, k)
		} else if len(impl.CountsAfter(e, src, k)) != 3 || impl.TotalPulls(e, src, k) < 0 {
			t.Fatalf("CountsAfter or TotalPulls(%v, %v, %d) has no result", e, src, k)
		}
	}
}
