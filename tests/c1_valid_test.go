package tests

import (
	"math"
	"slices"
	"testing"

	"loop.example/pullstreams/impl"
)

// fullSource has as many items as there may be.
func fullSource() []int {
	return []int{0, 99, 1, 98, 2, 97, 3, 96, 4, 95, 5, 94}
}

func TestSourcesLimits(t *testing.T) {
	for _, src := range [][][]int{
		{{}, {}, {}},
		{nil, nil, nil},
		{{0}, {99}, {}},
		{fullSource(), fullSource(), fullSource()},
	} {
		if !impl.ValidSources(src) {
			t.Errorf("ValidSources(%v) = false", src)
		}
	}
	for _, src := range badSources() {
		if impl.ValidSources(src) {
			t.Errorf("ValidSources(%v) = true", src)
		}
	}
}

// badSources returns lists that are no sources.
func badSources() [][][]int {
	return [][][]int{
		nil,
		{},
		{{1}, {2}},
		{{1}, {2}, {3}, {4}},
		{{}, {}, {}, {}},
		{append(fullSource(), 1), {}, {}},
		{{}, append(fullSource(), 1), {}},
		{{}, {}, append(fullSource(), 1)},
		{{-1}, {}, {}},
		{{100}, {}, {}},
		{{}, {1, 100}, {}},
		{{}, {}, {1, 2, -1}},
		{{math.MinInt}, {}, {}},
		{{}, {}, {math.MaxInt}},
	}
}

// TestP1ItemsCanBeLeftOut: valid sources are valid with nothing in one of them.
func TestP1ItemsCanBeLeftOut(t *testing.T) {
	eachPipe(t, 1, func(_ impl.Pipe, src [][]int, _ dice) {
		if !impl.ValidSources(src) {
			t.Errorf("ValidSources(%v) = false", src)
		}
		for s := range src {
			for _, nothing := range [][]int{nil, {}} {
				less := slices.Clone(src)
				less[s] = nothing
				if !impl.ValidSources(less) {
					t.Errorf("ValidSources(%v) = false", less)
				}
			}
		}
	})
	full := [][]int{fullSource(), fullSource(), fullSource()}
	full[1] = nil
	if !impl.ValidSources(full) {
		t.Error("ValidSources of full ones and an empty one = false")
	}
}

// pairOfNumbers are an N and an M.
type pairOfNumbers struct {
	n, m int
}

// edgesOf returns numbers at the limits of a kind, and numbers one beyond.
func edgesOf(kind int) (good, bad []pairOfNumbers) {
	good, bad = []pairOfNumbers{{0, 0}}, []pairOfNumbers{{-1, 0}, {0, -1}, {math.MinInt, 0}, {math.MaxInt, 0}, {0, math.MinInt}, {0, math.MaxInt}}
	with := func(more ...pairOfNumbers) {
		good = append(good, more...)
	}
	without := func(more ...pairOfNumbers) {
		bad = append(bad, more...)
	}
	switch kind {
	case impl.NkSource:
		with(pairOfNumbers{1, 0}, pairOfNumbers{2, 0})
		without(pairOfNumbers{3, 0}, pairOfNumbers{0, 1})
	case impl.NkMap:
		with(pairOfNumbers{99, 0}, pairOfNumbers{0, 99}, pairOfNumbers{99, 99})
		without(pairOfNumbers{100, 0}, pairOfNumbers{0, 100})
	case impl.NkFilter:
		good = []pairOfNumbers{{1, 0}, {2, 0}, {2, 1}, {30, 0}, {30, 29}}
		without(pairOfNumbers{0, 0}, pairOfNumbers{1, 1}, pairOfNumbers{2, 2}, pairOfNumbers{30, 30}, pairOfNumbers{31, 0}, pairOfNumbers{2, -1})
	case impl.NkTake, impl.NkDrop:
		with(pairOfNumbers{30, 0})
		without(pairOfNumbers{31, 0}, pairOfNumbers{2, 1}, pairOfNumbers{2, -1})
	case impl.NkWhile, impl.NkSkip:
		with(pairOfNumbers{99, 0})
		without(pairOfNumbers{100, 0}, pairOfNumbers{2, 1}, pairOfNumbers{2, -1})
	case impl.NkBatch:
		good = []pairOfNumbers{{1, 0}, {30, 0}}
		without(pairOfNumbers{0, 0}, pairOfNumbers{31, 0}, pairOfNumbers{2, 1}, pairOfNumbers{2, -1})
	default:
		without(pairOfNumbers{1, 0}, pairOfNumbers{0, 1})
	}
	return good, bad
}

// withNumbers returns a pipe with a node of a kind as its end.
func withNumbers(kind int, p pairOfNumbers) impl.Pipe {
	switch {
	case kind == impl.NkSource:
		return pipe(node(kind, -1, -1, p.n, p.m))
	case slices.Contains(kindsOfTwo, kind):
		return pipe(from(0), from(0), node(kind, 0, 1, p.n, p.m))
	}
	return one(kind, p.n, p.m)
}

func TestNumbersOfKinds(t *testing.T) {
	for kind := impl.NkSource; kind <= impl.NkOnce; kind++ {
		good, bad := edgesOf(kind)
		for _, p := range good {
			if !impl.ValidPipe(withNumbers(kind, p)) {
				t.Errorf("kind %d: N %d and M %d are not valid", kind, p.n, p.m)
			}
		}
		for _, p := range bad {
			if impl.ValidPipe(withNumbers(kind, p)) {
				t.Errorf("kind %d: N %d and M %d are valid", kind, p.n, p.m)
			}
		}
	}
}

// badPipes returns pipes that are not valid.
func badPipes() []impl.Pipe {
	out := []impl.Pipe{
		{},
		pipe([]impl.Node{}...),
		tower(13),
		pipe(impl.Node{}),
		pipe(from(0), from(0)),
		pipe(from(0), from(1), over(impl.NkOnce, 0, 0, 0)),
		pipe(from(0), from(1), over(impl.NkOnce, 1, 0, 0)),
		pipe(from(0), over(impl.NkOnce, 0, 0, 0), over(impl.NkOnce, 0, 0, 0)),
		pipe(from(0), over(impl.NkOnce, 0, 0, 0), both(impl.NkTurn, 0, 1)),
		pipe(from(0), over(impl.NkOnce, 0, 0, 0), over(impl.NkOnce, 0, 0, 0), both(impl.NkTurn, 1, 2)),
		pipe(over(impl.NkOnce, -1, 0, 0)),
		pipe(over(impl.NkOnce, 0, 0, 0)),
		pipe(over(impl.NkOnce, 1, 0, 0), from(0)),
		pipe(over(impl.NkOnce, 1, 0, 0), over(impl.NkOnce, 0, 0, 0)),
		pipe(from(0), over(impl.NkOnce, 1, 0, 0)),
		pipe(from(0), over(impl.NkOnce, 2, 0, 0)),
		pipe(from(0), over(impl.NkOnce, -2, 0, 0)),
		pipe(from(0), over(impl.NkOnce, math.MaxInt, 0, 0)),
		pipe(from(0), over(impl.NkOnce, math.MinInt, 0, 0)),
		pipe(from(0), node(impl.NkOnce, 0, 0, 0, 0)),
		pipe(from(0), node(impl.NkOnce, -1, 0, 0, 0)),
		pipe(from(0), from(0), node(impl.NkOnce, 0, 1, 0, 0)),
		pipe(from(0), node(impl.NkSource, 0, -1, 0, 0)),
		pipe(from(0), node(impl.NkSource, -1, 0, 0, 0)),
		pipe(node(impl.NkSource, 0, 0, 0, 0)),
		pipe(node(impl.NkSource, -2, -1, 0, 0)),
		pipe(node(impl.NkSource, -1, -2, 0, 0)),
		pipe(from(0), node(14, 0, -1, 0, 0)),
		pipe(from(0), node(-1, 0, -1, 0, 0)),
		pipe(node(14, -1, -1, 0, 0)),
		pipe(node(-1, -1, -1, 0, 0)),
		pipe(from(0), from(0), both(14, 0, 1)),
		pipe(from(0), over(math.MaxInt, 0, 0, 0)),
		pipe(from(0), over(math.MinInt, 0, 0, 0)),
	}
	for _, kind := range kindsOfTwo {
		out = append(out, pipe(from(0), both(kind, 0, 0)), pipe(from(0), both(kind, 0, -1)), pipe(from(0), both(kind, -1, 0)), pipe(from(0), both(kind, 0, 1)), pipe(from(0), both(kind, 1, 0)), pipe(from(0), from(1), both(kind, 0, 2)), pipe(from(0), from(1), both(kind, 2, 1)), pipe(from(0), from(1), both(kind, 1, 1)), pipe(from(0), from(1), from(2), both(kind, 0, 1)))
	}
	for kind := impl.NkSource; kind <= impl.NkOnce; kind++ {
		_, bad := edgesOf(kind)
		for _, p := range bad {
			out = append(out, withNumbers(kind, p))
		}
		lower := withNumbers(kind, bad[0]).Nodes
		out = append(out, pipe(append(lower, over(impl.NkScan, len(lower)-1, 0, 0))...))
	}
	return out
}

func TestBadPipes(t *testing.T) {
	for _, e := range badPipes() {
		if impl.ValidPipe(e) {
			t.Errorf("ValidPipe(%v) = true", e)
		}
	}
	for nodes := 1; nodes <= 12; nodes++ {
		if !impl.ValidPipe(tower(nodes)) {
			t.Errorf("ValidPipe of %d nodes = false", nodes)
		}
	}
}

// TestChangedPipes changes one number of valid pipes, and holds the result
// against a walk down from the end.
func TestChangedPipes(t *testing.T) {
	valid, wrong := 0, 0
	eachPipe(t, 12, func(e impl.Pipe, _ [][]int, d dice) {
		if !wantValid(e) || !impl.ValidPipe(e) {
			t.Fatalf("ValidPipe(%v) = false", e)
		}
		for range 20 {
			changed := impl.Pipe{Nodes: slices.Clone(e.Nodes)}
			n := &changed.Nodes[d.IntN(len(e.Nodes))]
			field := []*int{&n.Kind, &n.A, &n.B, &n.N, &n.M}[d.IntN(5)]
			*field = d.upTo(-2, 15)
			want := wantValid(changed)
			if impl.ValidPipe(changed) != want {
				t.Fatalf("ValidPipe(%v) = %v", changed, !want)
			}
			if want {
				valid++
			} else {
				wrong++
			}
		}
	})
	if valid < 1000 || wrong < 1000 {
		t.Errorf("only %d valid and %d other pipes", valid, wrong)
	}
}

// TestOtherArguments: each function has one fixed result for arguments that
// are not valid.
func TestOtherArguments(t *testing.T) {
	src := [][]int{{1, 2, 3}, {10, 20}, {5}}
	for _, e := range badPipes() {
		if len(impl.ListOf(e, src)) > 0 || impl.LengthOf(e, src) != -1 {
			t.Errorf("ListOf or LengthOf(%v) has a result", e)
		}
		if len(impl.SourcesOf(e)) > 0 || impl.IsLine(e) || impl.DepthOf(e) != -1 {
			t.Errorf("SourcesOf, IsLine or DepthOf(%v) has a result", e)
		}
		if len(impl.OrderPipe(e).Nodes) > 0 || len(impl.MoveSources(e, []int{0, 1, 2}).Nodes) > 0 {
			t.Errorf("OrderPipe or MoveSources(%v) has a result", e)
		}
		for i := -1; i <= len(e.Nodes); i++ {
			if len(impl.PartOf(e, i).Nodes) > 0 {
				t.Errorf("PartOf(%v, %d) has a result", e, i)
			}
		}
		for _, kind := range kindsOfTwo {
			if j, ok := impl.JoinPipes(e, tower(1), kind); ok || len(j.Nodes) > 0 {
				t.Errorf("JoinPipes(%v, ..) has a result", e)
			}
			if j, ok := impl.JoinPipes(tower(1), e, kind); ok || len(j.Nodes) > 0 {
				t.Errorf("JoinPipes(.., %v) has a result", e)
			}
		}
		if p, ok := impl.PutOn(e, over(impl.NkOnce, 0, 0, 0)); ok || len(p.Nodes) > 0 {
			t.Errorf("PutOn(%v, ..) has a result", e)
		}
	}
	for _, bad := range badSources() {
		for _, e := range []impl.Pipe{tower(1), one(impl.NkTake, 0, 0), pipe(from(2)), two(impl.NkZip)} {
			if len(impl.ListOf(e, bad)) > 0 || impl.LengthOf(e, bad) != -1 {
				t.Errorf("ListOf or LengthOf(%v, %v) has a result", e, bad)
			}
		}
	}
}
