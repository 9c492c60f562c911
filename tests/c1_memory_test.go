package tests

import (
	"math"
	"testing"

	"loop.example/pullstreams/impl"
)

// callsOfPipes returns a call of each function of the chapter.
func callsOfPipes() []call {
	out := []call{
		asNumber("ValidSources", func(w world) int { return yes(impl.ValidSources(w.src)) }),
		asNumber("ValidPipe", func(w world) int { return yes(impl.ValidPipe(w.e)) }),
		asList("ListOf", func(w world) []int { return impl.ListOf(w.e, w.src) }),
		asNumber("LengthOf", func(w world) int { return impl.LengthOf(w.e, w.src) }),
		asList("SourcesOf", func(w world) []int { return impl.SourcesOf(w.e) }),
		asNumber("IsLine", func(w world) int { return yes(impl.IsLine(w.e)) }),
		asNumber("DepthOf", func(w world) int { return impl.DepthOf(w.e) }),
		asPipe("OrderPipe", func(w world) impl.Pipe { return impl.OrderPipe(w.e) }),
		asPipe("PartOf a source", func(w world) impl.Pipe { return impl.PartOf(w.e, 0) }),
		asPipe("PartOf the end", func(w world) impl.Pipe { return impl.PartOf(w.e, len(w.e.Nodes)-1) }),
		asPipe("MoveSources", func(w world) impl.Pipe { return impl.MoveSources(w.e, w.to) }),
		asPipe("JoinPipes with itself", func(w world) impl.Pipe { p, _ := impl.JoinPipes(w.e, w.e, impl.NkTurn); return p }),
		asPipe("PutOn", func(w world) impl.Pipe { p, _ := impl.PutOn(w.e, over(impl.NkScan, 0, 0, 0)); return p }),
	}
	for _, kind := range kindsOfTwo {
		out = append(out, asPipe("JoinPipes", func(w world) impl.Pipe { p, _ := impl.JoinPipes(w.e, w.f, kind); return p }))
	}
	return out
}

func TestMemoryOfPipes(t *testing.T) {
	src := [][]int{{1, 1, 2, 50}, {3, 40, 5}, {}}
	pipes := []impl.Pipe{pipe(from(0)), pipe(from(1)), pipe(from(2)), tangled(), tower(11), tower(12)}
	for _, kind := range kindsOfOne {
		pipes = append(pipes, one(kind, 1, 0), one(kind, 0, 0))
	}
	for _, kind := range kindsOfTwo {
		pipes = append(pipes, two(kind), pipe(from(0), from(0), both(kind, 0, 1)), pipe(from(0), from(2), both(kind, 0, 1)), pipe(from(2), from(0), both(kind, 0, 1)))
	}
	for _, c := range callsOfPipes() {
		for _, e := range append(pipes, badPipes()...) {
			checkMemory(t, c, newWorld(e, src))
		}
		for _, bad := range badSources() {
			checkMemory(t, c, newWorld(tangled(), bad))
		}
	}
}

func TestMemoryOfAllPipes(t *testing.T) {
	calls := callsOfPipes()
	eachPipe(t, 12, func(e impl.Pipe, src [][]int, d dice) {
		for _, c := range calls {
			checkMemory(t, c, newWorld(e, src))
		}
	})
}

// TestNothingIsTooMuch calls all functions with any numbers: they return, and
// have no result for pipes that are not valid.
func TestNothingIsTooMuch(t *testing.T) {
	d := newDice(5)
	any := func() int {
		return []int{-1, 0, 1, 2, 3, d.upTo(-2, 14), math.MinInt, math.MaxInt, 100}[d.IntN(9)]
	}
	for range 20000 {
		var e impl.Pipe
		for range d.upTo(0, 14) {
			e.Nodes = append(e.Nodes, node(d.upTo(-1, 14), any(), any(), any(), any()))
		}
		src := make([][]int, d.upTo(0, 4))
		for s := range src {
			for range d.upTo(0, 14) {
				src[s] = append(src[s], any())
			}
		}
		i, kind, to := any(), d.upTo(-1, 14), []int{any(), any(), any()}
		list, part, moved := impl.ListOf(e, src), impl.PartOf(e, i), impl.MoveSources(e, to)
		joined, okJoined := impl.JoinPipes(e, tower(1), kind)
		more, okMore := impl.PutOn(tower(1), node(kind, any(), any(), any(), any()))
		if !wantValid(e) && (len(list) > 0 || len(part.Nodes) > 0 || len(moved.Nodes) > 0 || okJoined) {
			t.Fatalf("a result for %v", e)
		}
		if okJoined != (len(joined.Nodes) > 0) || okMore != (len(more.Nodes) > 0) || okMore != impl.ValidPipe(more) {
			t.Fatalf("%v is not what is told with %v or %v", okMore, joined, more)
		}
	}
}
