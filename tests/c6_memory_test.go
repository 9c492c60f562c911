package tests

import (
	"math"
	"testing"

	"loop.example/pullstreams/impl"
)

// numbersOf returns a generator and an event as numbers.
func numbersOf(g impl.Gen, e impl.Event) []int {
	return []int{g.At, g.Sum, g.Sent, g.Handler, g.Phase, e.Kind, e.Value}
}

// callsOfGenerators returns a call of each function of the chapter. The first
// resume is the one for ResumeGen, if there are some.
func callsOfGenerators() []call {
	first := func(w world) impl.Resume {
		if len(w.resumes) == 0 {
			return impl.Resume{}
		}
		return w.resumes[0]
	}
	return []call{
		asNumber("ValidCode", func(w world) int { return yes(impl.ValidCode(w.code)) }),
		asNumber("ValidGen", func(w world) int { return yes(impl.ValidGen(w.code, w.g)) }),
		asList("NewGen", func(w world) []int { return numbersOf(impl.NewGen(w.code), impl.Event{}) }),
		asNumber("ValidResume", func(w world) int { return yes(impl.ValidResume(first(w))) }),
		asList("ResumeGen", func(w world) []int { return numbersOf(impl.ResumeGen(w.code, w.g, first(w))) }),
		{"RunGen", func(w world) result { return result{events: impl.RunGen(w.code, w.resumes)} }},
		asList("YieldsOf", func(w world) []int { return impl.YieldsOf(w.code, w.k) }),
		asList("EndOf", func(w world) []int { return numbersOf(impl.Gen{}, impl.EndOf(w.code)) }),
		{"RunFrom", func(w world) result { return result{events: impl.RunFrom(w.code, w.outer, w.resumes)} }},
	}
}

func TestMemoryOfGenerators(t *testing.T) {
	calls := callsOfGenerators()
	check := func(code, outer []impl.Order, g impl.Gen, list []impl.Resume, k int) {
		w := newWorld(tower(1), [][]int{}).withCodes(code, outer, g, list, k)
		for _, x := range calls {
			checkMemory(t, x, w)
		}
	}
	eachList(t, func(code []impl.Order, list []impl.Resume, d dice) {
		check(code, d.code(), d.gen(code), list, len(list))
	})
	for _, code := range badCodes() {
		check(code, adds(3), gen(0, 0, 0, -1, impl.PhWait), nexts(5), 5)
		check(adds(3), code, gen(0, 0, 0, -1, impl.PhWait), nexts(5), 61)
	}
	for _, list := range badLists() {
		check(adds(3), adds(2), gen(0, 0, 0, -1, impl.PhWait), list, -1)
	}
	for _, g := range badGens() {
		check(adds(3), nil, g, nil, math.MaxInt)
	}
}

// TestAnyGenerators calls all functions with any numbers: they return, and have
// the fixed result for arguments that are not valid.
func TestAnyGenerators(t *testing.T) {
	d := newDice(10)
	any := func() int {
		return []int{0, 1, 2, d.upTo(-2, 12), 99, 100, math.MinInt, math.MaxInt}[d.IntN(8)]
	}
	valid, others := 0, 0
	for range 20000 {
		code, list := d.code(), d.resumes()
		g := d.gen(code)
		switch d.IntN(6) {
		case 0:
			code = append(code, order(any(), any(), any()))
		case 1:
			g = gen(any(), any(), any(), any(), any())
		case 2:
			list = append(list, resume(any(), any()))
		case 3:
			code = append(code, order(d.IntN(8), any(), d.IntN(2)))
		}
		if wantValidCode(code) {
			checkGeneratorOfAny(t, code, g, list, any())
		} else {
			checkNoGenerator(t, code)
		}
		r := resume(any(), any())
		good := wantValidGen(code, g) && wantValidResume(r)
		valid, others = valid+yes(good), others+yes(!good)
		if good {
			checkResume(t, code, g, r)
		} else {
			checkNoResume(t, code, g, r)
		}
		if t.Failed() {
			return
		}
	}
	if valid < 1000 || others < 1000 {
		t.Errorf("only %d valid and %d other resumes", valid, others)
	}
}

// checkGeneratorOfAny checks the results for a valid code, with any other
// arguments.
func checkGeneratorOfAny(t *testing.T, code []impl.Order, g impl.Gen, list []impl.Resume, k int) {
	t.Helper()
	if impl.ValidCode(code) != wantValidCode(code) || impl.ValidGen(code, g) != wantValidGen(code, g) {
		t.Errorf("ValidCode(%v) = %v, and ValidGen of %v %v", code, impl.ValidCode(code), g, impl.ValidGen(code, g))
	}
	if wantValidList(list) {
		checkGenerator(t, code, list)
		checkFrom(t, code, code, list)
	} else if len(impl.RunGen(code, list)) > 0 || len(impl.RunFrom(code, code, list)) > 0 {
		t.Errorf("RunGen(%v, %v) = %v", code, list, impl.RunGen(code, list))
	}
	if got := impl.YieldsOf(code, k); (k < 0 || k > 60) && len(got) > 0 {
		t.Errorf("YieldsOf(%v, %d) = %v", code, k, got)
	}
}
