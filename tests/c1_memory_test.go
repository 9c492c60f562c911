package tests

import (
	"math"
	"slices"
	"testing"

	"loop.example/pullstreams/impl"
)

// strange is a number that no function of the chapter returns.
const strange = -77

// world has arguments for all functions, each with spare capacity behind it.
type world struct {
	e, f impl.Pipe
	src  [][]int
	to   []int
}

// roomy returns a list with spare capacity that is not empty.
func roomy(list []int) []int {
	return append(slices.Clone(list), strange, strange, strange)[:len(list)]
}

// roomyPipe returns a pipe with spare capacity that is not empty.
func roomyPipe(e impl.Pipe) impl.Pipe {
	spare := node(strange, strange, strange, strange, strange)
	return impl.Pipe{Nodes: append(slices.Clone(e.Nodes), spare, spare)[:len(e.Nodes)]}
}

// newWorld returns arguments.
func newWorld(e impl.Pipe, src [][]int) world {
	w := world{e: roomyPipe(e), f: roomyPipe(tangled()), to: roomy([]int{1, 2, 0})}
	for _, list := range src {
		w.src = append(w.src, roomy(list))
	}
	w.src = append(w.src, []int{strange})[:len(src)]
	return w
}

// all returns a list with its spare capacity.
func all[T any](list []T) []T {
	return list[:cap(list)]
}

// sameWorld reports whether all arguments are the same, the spare capacity
// included.
func sameWorld(v, w world) bool {
	same := slices.Equal(all(v.e.Nodes), all(w.e.Nodes)) && slices.Equal(all(v.f.Nodes), all(w.f.Nodes)) && slices.Equal(all(v.to), all(w.to))
	return same && slices.EqualFunc(all(v.src), all(w.src), func(a, b []int) bool {
		return slices.Equal(all(a), all(b))
	})
}

// copyWorld returns the same arguments in other memory.
func copyWorld(w world) world {
	out := world{
		e:  impl.Pipe{Nodes: slices.Clone(all(w.e.Nodes))[:len(w.e.Nodes):cap(w.e.Nodes)]},
		f:  impl.Pipe{Nodes: slices.Clone(all(w.f.Nodes))[:len(w.f.Nodes):cap(w.f.Nodes)]},
		to: slices.Clone(all(w.to))[:len(w.to):cap(w.to)],
	}
	for _, list := range all(w.src) {
		out.src = append(out.src, slices.Clone(all(list))[:len(list):cap(list)])
	}
	out.src = out.src[:len(w.src):cap(w.src)]
	return out
}

// spoil overwrites a list with its spare capacity.
func spoil(list []int) {
	for i := range all(list) {
		all(list)[i] = strange - 1
	}
}

// spoilPipe overwrites a pipe with its spare capacity.
func spoilPipe(e impl.Pipe) {
	for i := range all(e.Nodes) {
		all(e.Nodes)[i] = node(strange-1, 0, 0, 0, 0)
	}
}

// spoilWorld overwrites all arguments.
func spoilWorld(w world) {
	spoilPipe(w.e)
	spoilPipe(w.f)
	spoil(w.to)
	for _, list := range all(w.src) {
		spoil(list)
	}
}

// call is a function of the chapter, and its result, as a list or as a pipe.
type call struct {
	name string
	run  func(w world) ([]int, impl.Pipe)
}

// asPipe returns a call of a function that returns a pipe.
func asPipe(name string, run func(w world) impl.Pipe) call {
	return call{name, func(w world) ([]int, impl.Pipe) { return nil, run(w) }}
}

// asList returns a call of a function that returns a list.
func asList(name string, run func(w world) []int) call {
	return call{name, func(w world) ([]int, impl.Pipe) { return run(w), impl.Pipe{} }}
}

// asNumber returns a call of a function that returns a number.
func asNumber(name string, run func(w world) int) call {
	return asList(name, func(w world) []int { return []int{run(w)} })
}

// yes returns 1 for true.
func yes(is bool) int {
	if is {
		return 1
	}
	return 0
}

// callsOfPipes returns a call of each function of the chapter.
func callsOfPipes() []call {
	out := []call{
		asNumber("ValidSources", func(w world) int { return yes(impl.ValidSources(w.src)) }),
		asNumber("ValidPipe", func(w world) int { return yes(impl.ValidPipe(w.e)) }),
		asList("ListOf", func(w world) []int { return impl.ListOf(w.e, w.src) }),
		asNumber("LengthOf", func(w world) int { return impl.LengthOf(w.e, w.src) }),
		asList("SourcesOf", func(w world) []int { return impl.SourcesOf(w.e) }),
		asNumber("IsLine", func(w world) int { return yes(impl.IsLine(w.e)) }),
		asNumber("DepthOf", func(w world) int { return impl.DepthOf(w.e) }),
		asPipe("OrderPipe", func(w world) impl.Pipe { return impl.OrderPipe(w.e) }),
		asPipe("PartOf a source", func(w world) impl.Pipe { return impl.PartOf(w.e, 0) }),
		asPipe("PartOf the end", func(w world) impl.Pipe { return impl.PartOf(w.e, len(w.e.Nodes)-1) }),
		asPipe("MoveSources", func(w world) impl.Pipe { return impl.MoveSources(w.e, w.to) }),
		asPipe("JoinPipes with itself", func(w world) impl.Pipe { p, _ := impl.JoinPipes(w.e, w.e, impl.NkTurn); return p }),
		asPipe("PutOn", func(w world) impl.Pipe { p, _ := impl.PutOn(w.e, over(impl.NkScan, 0, 0, 0)); return p }),
	}
	for _, kind := range kindsOfTwo {
		out = append(out, asPipe("JoinPipes", func(w world) impl.Pipe { p, _ := impl.JoinPipes(w.e, w.f, kind); return p }))
	}
	return out
}

// checkMemory checks that a call changes no argument, and that its result
// shares no memory with an argument, or with that of another call.
func checkMemory(t *testing.T, c call, before world) {
	t.Helper()
	w := copyWorld(before)
	list, e := c.run(w)
	wantList, wantPipe := slices.Clone(list), impl.Pipe{Nodes: slices.Clone(e.Nodes)}
	if !sameWorld(w, before) {
		t.Errorf("%s of %v changes an argument", c.name, before)
	}
	again, f := c.run(w)
	if !slices.Equal(again, wantList) || !samePipe(f, wantPipe) {
		t.Errorf("%s of %v has another result the second time", c.name, before)
	}
	spoil(again)
	spoilPipe(f)
	if !sameWorld(w, before) {
		t.Errorf("the result of %s of %v shares memory with an argument", c.name, before)
	}
	spoilWorld(w)
	if !slices.Equal(list, wantList) || !samePipe(e, wantPipe) {
		t.Errorf("the result of %s of %v shares memory with an argument or a result", c.name, before)
	}
}

func TestMemoryOfPipes(t *testing.T) {
	src := [][]int{{1, 1, 2, 50}, {3, 40, 5}, {}}
	pipes := []impl.Pipe{pipe(from(0)), pipe(from(1)), pipe(from(2)), tangled(), tower(11), tower(12)}
	for _, kind := range kindsOfOne {
		pipes = append(pipes, one(kind, 1, 0), one(kind, 0, 0))
	}
	for _, kind := range kindsOfTwo {
		pipes = append(pipes, two(kind), pipe(from(0), from(0), both(kind, 0, 1)), pipe(from(0), from(2), both(kind, 0, 1)), pipe(from(2), from(0), both(kind, 0, 1)))
	}
	for _, c := range callsOfPipes() {
		for _, e := range append(pipes, badPipes()...) {
			checkMemory(t, c, newWorld(e, src))
		}
		for _, bad := range badSources() {
			checkMemory(t, c, newWorld(tangled(), bad))
		}
	}
}

func TestMemoryOfAllPipes(t *testing.T) {
	calls := callsOfPipes()
	eachPipe(t, 12, func(e impl.Pipe, src [][]int, d dice) {
		for _, c := range calls {
			checkMemory(t, c, newWorld(e, src))
		}
	})
}

// TestNothingIsTooMuch calls all functions with any numbers: they return, and
// have no result for pipes that are not valid.
func TestNothingIsTooMuch(t *testing.T) {
	d := newDice(5)
	any := func() int {
		return []int{-1, 0, 1, 2, 3, d.upTo(-2, 14), math.MinInt, math.MaxInt, 100}[d.IntN(9)]
	}
	for range 20000 {
		var e impl.Pipe
		for range d.upTo(0, 14) {
			e.Nodes = append(e.Nodes, node(d.upTo(-1, 14), any(), any(), any(), any()))
		}
		src := make([][]int, d.upTo(0, 4))
		for s := range src {
			for range d.upTo(0, 14) {
				src[s] = append(src[s], any())
			}
		}
		i, kind, to := any(), d.upTo(-1, 14), []int{any(), any(), any()}
		list, part, moved := impl.ListOf(e, src), impl.PartOf(e, i), impl.MoveSources(e, to)
		joined, okJoined := impl.JoinPipes(e, tower(1), kind)
		more, okMore := impl.PutOn(tower(1), node(kind, any(), any(), any(), any()))
		if !wantValid(e) && (len(list) > 0 || len(part.Nodes) > 0 || len(moved.Nodes) > 0 || okJoined) {
			t.Fatalf("a result for %v", e)
		}
		if okJoined != (len(joined.Nodes) > 0) || okMore != (len(more.Nodes) > 0) || okMore != impl.ValidPipe(more) {
			t.Fatalf("%v is not what is told with %v or %v", okMore, joined, more)
		}
	}
}
