package tests

import (
	"math"
	"slices"
	"testing"

	"loop.example/pullstreams/impl"
)

// sameSources reports whether two lists of lists are the same.
func sameSources(a, b [][]int) bool {
	return slices.EqualFunc(a, b, func(x, y []int) bool { return slices.Equal(x, y) })
}

// changed returns valid sources that begin as the given ones do, and are often
// others, or fewer, or more behind some place.
func (d dice) changed(src [][]int) [][]int {
	var out [][]int
	for _, items := range src {
		list := slices.Clone(items)
		at := d.upTo(0, len(list))
		switch d.IntN(6) {
		case 0:
			list = list[:at]
		case 1:
			list = append(list[:at], d.src()[0]...)
			list = list[:min(len(list), 12)]
		case 2:
			list = append(list, d.upTo(0, 99))[:min(len(list)+1, 12)]
		case 3:
			if at < len(list) {
				list[at] = (list[at] + d.upTo(0, 2)) % 100
			}
		}
		out = append(out, list)
	}
	return out
}

func TestCutSources(t *testing.T) {
	src := [][]int{{1, 2, 3}, {}, fullSource()}
	for _, c := range []struct {
		counts []int
		want   [][]int
	}{
		{[]int{0, 0, 0}, [][]int{{}, {}, {}}},
		{[]int{1, 0, 1}, [][]int{{1}, {}, {0}}},
		{[]int{2, 1, 11}, [][]int{{1, 2}, {}, fullSource()[:11]}},
		{[]int{3, 12, 12}, src},
		{[]int{4, 13, 13}, src},
		{[]int{0, math.MaxInt, 0}, [][]int{{}, {}, {}}},
		{[]int{math.MaxInt, 0, math.MaxInt}, src},
		{[]int{3, 0, 0}, [][]int{{1, 2, 3}, {}, {}}},
		{[]int{0, 0, 2}, [][]int{{}, {}, {0, 99}}},
	} {
		if got := impl.CutSources(src, c.counts); !sameSources(got, c.want) {
			t.Errorf("CutSources(%v, %v) = %v", src, c.counts, got)
		}
	}
	nothing := [][]int{nil, nil, nil}
	if got := impl.CutSources(nothing, []int{1, 2, 3}); !sameSources(got, nothing) {
		t.Errorf("CutSources of no items = %v", got)
	}
}

func TestCutSourcesOfOtherArguments(t *testing.T) {
	src := [][]int{{1, 2, 3}, {}, fullSource()}
	for _, counts := range [][]int{nil, {}, {1}, {1, 2}, {1, 2, 3, 4}, {0, 0, 0, 0}, {-1, 0, 0}, {0, -1, 0}, {0, 0, -1}, {5, 5, -1}, {math.MinInt, 0, 0}, {1, math.MinInt, math.MaxInt}, {1, 2, 3, -1}} {
		if got := impl.CutSources(src, counts); len(got) > 0 {
			t.Errorf("CutSources(%v, %v) = %v", src, counts, got)
		}
	}
	for _, bad := range badSources() {
		for _, counts := range [][]int{{0, 0, 0}, {1, 1, 1}, {12, 12, 12}, {20, 20, 20}, {-1, -1, -1}, make([]int, len(bad))} {
			if got := impl.CutSources(bad, counts); len(got) > 0 {
				t.Errorf("CutSources(%v, %v) = %v", bad, counts, got)
			}
		}
	}
}

// TestP27WhatIsNotReached: FirstItems of k pulls with the sources cut at
// ReachedBy are the same.
func TestP27WhatIsNotReached(t *testing.T) {
	less := 0
	eachPipe(t, 12, func(e impl.Pipe, src [][]int, _ dice) {
		for _, k := range numbersOfPulls(impl.LengthOf(e, src)) {
			cut := impl.CutSources(src, impl.ReachedBy(e, src, k))
			if !impl.ValidSources(cut) || !slices.Equal(impl.FirstItems(e, cut, k), impl.FirstItems(e, src, k)) {
				t.Errorf("FirstItems(%v, %v, %d) are others with %v", e, src, k, cut)
			}
			less += yes(!sameSources(cut, src))
		}
	})
	if less < 1000 {
		t.Errorf("only %d sources were cut", less)
	}
}

// TestReachedItemsMatter: no item fewer gives the same pulls.
func TestReachedItemsMatter(t *testing.T) {
	eachPipe(t, 12, func(e impl.Pipe, src [][]int, d dice) {
		k := d.upTo(1, 15)
		reached := impl.ReachedBy(e, src, k)
		for s := range reached {
			if reached[s] == 0 {
				continue
			}
			fewer := slices.Clone(reached)
			fewer[s]--
			cut := impl.CutSources(src, fewer)
			if samePulls(impl.PullsOf(e, cut, k), impl.PullsOf(e, src, k)) || impl.SameView(e, src, cut, k) {
				t.Errorf("%d pulls of %v, %v do not reach %v", k, e, src, reached)
			}
		}
	})
}

// TestP28CutSourcesAreBeginnings: each of CutSources is a beginning of its
// source, and cut again the same.
func TestP28CutSourcesAreBeginnings(t *testing.T) {
	eachPipe(t, 1, func(_ impl.Pipe, src [][]int, d dice) {
		counts := []int{d.upTo(0, 14), d.upTo(0, 14), d.upTo(0, 14)}
		cut := impl.CutSources(src, counts)
		if len(cut) != 3 {
			t.Fatalf("CutSources(%v, %v) = %v", src, counts, cut)
		}
		for s, items := range cut {
			if len(items) != min(counts[s], len(src[s])) || !slices.Equal(items, src[s][:len(items)]) {
				t.Errorf("CutSources(%v, %v) = %v", src, counts, cut)
			}
		}
		if again := impl.CutSources(cut, counts); !sameSources(again, cut) {
			t.Errorf("CutSources(%v, %v) = %v", cut, counts, again)
		}
	})
}

// TestP34WhatCannotBeTold: where SameView holds FirstItems and PullsOf of k
// pulls are the same with both sources.
func TestP34WhatCannotBeTold(t *testing.T) {
	same, others := 0, 0
	eachPipe(t, 12, func(e impl.Pipe, a [][]int, d dice) {
		for range 5 {
			b, k := d.changed(a), d.upTo(0, 15)
			if !impl.SameView(e, a, b, k) {
				continue
			}
			same++
			others += yes(!sameSources(a, b))
			if !slices.Equal(impl.FirstItems(e, a, k), impl.FirstItems(e, b, k)) || !samePulls(impl.PullsOf(e, a, k), impl.PullsOf(e, b, k)) {
				t.Errorf("SameView(%v, %v, %v, %d) = true", e, a, b, k)
			}
			if !impl.SameView(e, b, a, k) {
				t.Errorf("SameView(%v, %v, %v, %d) = false, but not the other way round", e, b, a, k)
			}
		}
	})
	if same < 1000 || others < 1000 {
		t.Errorf("only %d views were the same, %d of other sources", same, others)
	}
}

func TestViewsOfAllPipes(t *testing.T) {
	same, differ := 0, 0
	eachPipe(t, 12, func(e impl.Pipe, a [][]int, d dice) {
		answers := wantAnswers(e, len(e.Nodes)-1, a)
		for range 5 {
			b, k := d.changed(a), []int{d.upTo(0, 15), 199, 200}[d.IntN(3)]
			want := wantSameView(pullsOf(answers[:min(k, len(answers))]), a, b)
			if got := impl.SameView(e, a, b, k); got != want {
				t.Errorf("SameView(%v, %v, %v, %d) = %v", e, a, b, k, got)
			}
			same += yes(want)
			differ += yes(!want)
		}
		if !impl.SameView(e, a, a, d.upTo(0, 200)) {
			t.Errorf("SameView(%v, %v) of the same sources = false", e, a)
		}
	})
	if same < 1000 || differ < 1000 {
		t.Errorf("only %d views were the same, and %d were not", same, differ)
	}
}

func TestSameView(t *testing.T) {
	a := [][]int{{1, 2, 3}, {10, 20}, {}}
	for _, c := range []struct {
		e    impl.Pipe
		b    [][]int
		k    int
		want bool
	}{
		// Nothing is looked at.
		{tower(1), [][]int{{}, {}, {}}, 0, true},
		{tower(1), [][]int{{9}, {8}, fullSource()}, 0, true},
		{one(impl.NkTake, 0, 0), [][]int{{9}, {8}, {7}}, 200, true},
		// Just the first items are looked at.
		{tower(1), [][]int{{1, 2}, {}, {}}, 2, true},
		{tower(1), [][]int{{1, 2, 9, 9}, {}, {}}, 2, true},
		{tower(1), [][]int{{1, 9, 3}, {10, 20}, {}}, 2, false},
		{tower(1), [][]int{{9, 2, 3}, {10, 20}, {}}, 2, false},
		{tower(1), [][]int{{1}, {10, 20}, {}}, 2, false},
		{tower(1), [][]int{{}, {10, 20}, {}}, 2, false},
		// All items are looked at, and then that there are no more.
		{tower(1), [][]int{{1, 2, 3, 4}, {}, {5}}, 3, true},
		{tower(1), [][]int{{1, 2, 3, 4}, {}, {5}}, 4, false},
		{tower(1), [][]int{{1, 2, 3}, {}, {5}}, 4, true},
		{tower(1), [][]int{{1, 2}, {}, {5}}, 4, false},
		{tower(1), [][]int{{1, 2, 9}, {}, {5}}, 4, false},
		{tower(1), [][]int{{1, 2, 3}, {}, {5}}, 200, true},
		// The end is not looked at.
		{one(impl.NkTake, 3, 0), [][]int{{1, 2, 3, 4}, {}, {5}}, 200, true},
		{one(impl.NkTake, 4, 0), [][]int{{1, 2, 3, 4}, {}, {5}}, 200, false},
		{one(impl.NkWhile, 2, 0), [][]int{{1, 2}, {}, {5}}, 200, true},
		{one(impl.NkWhile, 2, 0), [][]int{{1, 5, 3}, {}, {5}}, 200, false},
		// What is looked at counts, even if it is not given on.
		{one(impl.NkFilter, 2, 0), [][]int{{3, 2, 3}, {10, 20}, {}}, 1, false},
		{one(impl.NkDrop, 2, 0), [][]int{{1, 9, 3}, {10, 20}, {}}, 1, false},
		{one(impl.NkMap, 0, 0), [][]int{{9, 2, 3}, {10, 20}, {}}, 1, false},
		// Each source is looked at, and the last one, too.
		{two(impl.NkZip), [][]int{{1, 2, 3, 4}, {10, 20, 30}, {1}}, 2, true},
		{two(impl.NkZip), [][]int{{1, 2, 3, 4}, {10, 20}, {1}}, 3, true},
		{two(impl.NkZip), [][]int{{1, 2, 3, 4}, {10, 20, 30}, {1}}, 3, false},
		{two(impl.NkZip), [][]int{{1, 2, 3}, {10, 21}, {}}, 2, false},
		{pipe(from(2)), [][]int{{}, {}, {}}, 1, true},
		{pipe(from(2)), [][]int{{1, 2, 3}, {10, 20}, {0}}, 1, false},
		{pipe(from(2)), [][]int{{1, 2, 3}, {10, 20}, {0}}, 0, true},
		// One of two nodes of a source sees its end.
		{twin(impl.NkZip), [][]int{{1, 2, 3, 4}, {}, {}}, 3, true},
		{twin(impl.NkZip), [][]int{{1, 2, 3, 4}, {}, {}}, 4, false},
	} {
		if got := impl.SameView(c.e, a, c.b, c.k); got != c.want {
			t.Errorf("SameView(%v, %v, %v, %d) = %v", c.e, a, c.b, c.k, got)
		}
	}
}

// TestViewsOfOtherArguments: both sources must be valid, also where they are
// not looked at.
func TestViewsOfOtherArguments(t *testing.T) {
	src := [][]int{{1, 2, 3}, {10, 20}, {5}}
	for _, e := range []impl.Pipe{tower(1), one(impl.NkTake, 0, 0), pipe(from(2)), two(impl.NkZip)} {
		for _, k := range []int{0, 1, 2, 199, 200} {
			if !impl.SameView(e, src, src, k) {
				t.Errorf("SameView(%v, %v, %v, %d) = false", e, src, src, k)
			}
			for _, bad := range append(badSources(), [][]int{{1, 2, 3, 100}, {10, 20}, {5}}, [][]int{{1, 2, 3}, {10, 20}, {5}, {}}, [][]int{{1, 2, 3}, {10, 20}}) {
				if impl.SameView(e, src, bad, k) || impl.SameView(e, bad, src, k) || impl.SameView(e, bad, bad, k) {
					t.Errorf("SameView(%v, %v, %v, %d) = true", e, src, bad, k)
				}
			}
		}
		for _, k := range []int{-1, 201, math.MinInt, math.MaxInt} {
			if impl.SameView(e, src, src, k) {
				t.Errorf("SameView(%v, %v, %v, %d) = true", e, src, src, k)
			}
		}
	}
}
