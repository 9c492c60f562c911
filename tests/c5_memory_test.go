package tests

import (
	"math"
	"testing"

	"loop.example/pullstreams/impl"
)

// callsOfTees returns a call of each function of the chapter. The source 0 has
// the items, and the numbers for each source are the turns.
func callsOfTees() []call {
	return []call{
		asNumber("ValidTee", func(w world) int { return yes(impl.ValidTee(w.tee)) }),
		{"NewTee", func(w world) result { return result{tee: impl.NewTee(w.src[0], w.k)} }},
		{"ReadTee", func(w world) result {
			t, x, ok := impl.ReadTee(w.tee, w.k)
			return result{tee: t, list: []int{x, yes(ok)}}
		}},
		asList("HeldItems", func(w world) []int { return impl.HeldItems(w.tee) }),
		{"CloseReader", func(w world) result {
			t, ok := impl.CloseReader(w.tee, w.k)
			return result{tee: t, list: []int{yes(ok)}}
		}},
		asList("RunTee", func(w world) []int { return impl.RunTee(w.src[0], 4, w.to) }),
		{"TeeAfter", func(w world) result { return result{tee: impl.TeeAfter(w.src[0], 4, w.to)} }},
		asNumber("MostHeld", func(w world) int { return impl.MostHeld(w.src[0], 4, w.to) }),
		asList("ReadBy", func(w world) []int { return impl.ReadBy(w.src[0], 4, w.to, w.k) }),
		asList("FairTurns", func(w world) []int { return impl.FairTurns(w.k, 3) }),
	}
}

func TestMemoryOfTees(t *testing.T) {
	calls := callsOfTees()
	check := func(e impl.Tee, items []int, turns []int, c int) {
		w := newWorld(tower(1), [][]int{items}).withTee(e, turns, c)
		for _, x := range calls {
			checkMemory(t, x, w)
		}
	}
	eachTee(t, func(e impl.Tee, d dice) {
		check(e, e.Items, d.turns(4), d.upTo(-1, 5))
	})
	for _, e := range badTees() {
		for _, c := range []int{0, 1, math.MinInt, math.MaxInt} {
			check(e, e.Items, []int{0, 3, 4}, c)
			check(e, e.Items, make([]int, 61), c)
		}
	}
}

// TestAnyTees calls all functions with any numbers: they return, and have the
// fixed result for arguments that are not valid.
func TestAnyTees(t *testing.T) {
	d := newDice(9)
	any := func() int {
		return []int{0, 1, 2, d.upTo(-2, 14), 99, 100, math.MinInt, math.MaxInt}[d.IntN(8)]
	}
	valid, others := 0, 0
	for range 20000 {
		e := d.tee()
		switch d.IntN(6) {
		case 0:
			e.Fed = any()
		case 1:
			e.Items = append(e.Items, any())
		case 2:
			e.Places[d.IntN(len(e.Places))] = any()
		case 3:
			e.Places = append(e.Places, any())
		case 4:
			e.Open = append(e.Open, true)
		}
		good := wantValidTee(e)
		valid, others = valid+yes(good), others+yes(!good)
		if good {
			checkTee(t, e)
		} else if len(impl.HeldItems(e)) > 0 || impl.ValidTee(e) {
			t.Fatalf("%v is valid, or holds items", e)
		}
		if c := any(); !good || c < 0 || c >= len(e.Open) {
			checkNoReader(t, e, c)
		}
		readers, turns := any(), []int{any(), any()}
		if wantTurns(e.Items, readers, turns) {
			checkRun(t, e.Items, readers, turns)
		} else {
			checkNoRun(t, e.Items, readers, turns)
		}
		if t.Failed() {
			return
		}
	}
	if valid < 1000 || others < 1000 {
		t.Errorf("only %d valid and %d other tees", valid, others)
	}
}
