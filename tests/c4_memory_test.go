package tests

import (
	"math"
	"testing"

	"loop.example/pullstreams/impl"
)

// callsOfRules returns a call of each function of the chapter.
func callsOfRules() []call {
	return []call{
		asNumber("RuleAt", func(w world) int { return impl.RuleAt(w.e, w.k) }),
		asChange("ApplyRule", func(w world) (impl.Pipe, bool) { return impl.ApplyRule(w.e, w.k) }),
		asNumber("IsNormal", func(w world) int { return yes(impl.IsNormal(w.e)) }),
		asPipe("NormalPipe", func(w world) impl.Pipe { return impl.NormalPipe(w.e) }),
		asNumber("RulesFor", func(w world) int { return impl.RulesFor(w.e) }),
		asChange("SwapZip", func(w world) (impl.Pipe, bool) { return impl.SwapZip(w.e, w.k) }),
		asNumber("ComparePipes", func(w world) int { return impl.ComparePipes(w.e, w.f, w.src) }),
	}
}

// callsOfWitnesses returns calls of WitnessFor, which take longer.
func callsOfWitnesses() []call {
	var out []call
	for how := impl.CoSame; how <= impl.CoOther; how++ {
		out = append(out, call{"WitnessFor", func(w world) result {
			list, ok := impl.WitnessFor(w.e, w.f, how)
			return result{list: list, pulls: []impl.Pull{{Source: yes(ok)}}}
		}})
	}
	return out
}

// asChange returns a call of a function that returns a pipe, or none.
func asChange(name string, run func(w world) (impl.Pipe, bool)) call {
	return call{name, func(w world) result {
		e, ok := run(w)
		return result{e: e, list: []int{yes(ok)}}
	}}
}

func TestMemoryOfRules(t *testing.T) {
	calls := callsOfRules()
	check := func(w world) {
		for _, c := range calls {
			checkMemory(t, c, w)
		}
	}
	eachRuled(t, func(e impl.Pipe, src [][]int, d dice) {
		for i := range e.Nodes {
			check(newWorld(e, src).withPipe(d.other(e), i))
		}
	})
	src := [][]int{{1, 1, 2, 50}, {3, 40, 5}, {}}
	pipes := append(badPipes(), tangled(), tower(1), tower(12), two(impl.NkZip), twin(impl.NkZip))
	for _, e := range pipes {
		for _, i := range []int{-1, 0, 1, 2, 11, 12, 13} {
			check(newWorld(e, src).withPipe(tangled(), i))
			check(newWorld(tangled(), src).withPipe(e, i))
		}
	}
	for _, bad := range badSources() {
		check(newWorld(tangled(), bad).withPipe(tangled(), 2))
	}
}

func TestMemoryOfWitnesses(t *testing.T) {
	d := newDice(45)
	for _, c := range callsOfWitnesses() {
		for round := range 300 {
			e := d.ruled(1 + round%12)
			checkMemory(t, c, newWorld(e, d.src()).withPipe(d.other(e), 0))
		}
		for _, e := range badPipes() {
			checkMemory(t, c, newWorld(e, nil).withPipe(tower(1), 0))
			checkMemory(t, c, newWorld(tower(1), nil).withPipe(e, 0))
		}
	}
}

// TestAnyRules calls all functions with any numbers: they return, and have the
// fixed result for arguments that are not valid.
func TestAnyRules(t *testing.T) {
	d := newDice(8)
	any := func() int {
		return []int{0, 1, 2, d.upTo(-2, 14), 30, 100, math.MinInt, math.MaxInt}[d.IntN(8)]
	}
	valid, others := 0, 0
	for range 20000 {
		e, src := d.ruled(d.upTo(1, 4)), d.src()
		f := d.other(e)
		for range d.IntN(3) {
			n := &e.Nodes[d.IntN(len(e.Nodes))]
			field := []*int{&n.Kind, &n.A, &n.B, &n.N, &n.M}[d.IntN(5)]
			*field = any()
		}
		if d.IntN(3) == 0 {
			src[d.IntN(3)] = []int{any(), any()}
		}
		i, how := any(), any()
		good := wantValid(e)
		valid, others = valid+yes(good), others+yes(!good)
		if !good {
			checkNoNormal(t, e)
			checkCompare(t, e, f, src, -1)
		} else {
			checkNormal(t, e)
		}
		if !good || i < 0 || i >= len(e.Nodes) {
			checkNoRules(t, e, i)
		} else {
			checkRule(t, e, i)
		}
		if !impl.ValidSources(src) {
			checkCompare(t, e, f, src, -1)
		}
		if !good || how != impl.CoList && how != impl.CoOther {
			checkWitness(t, e, f, how)
		}
		if t.Failed() {
			return
		}
	}
	if valid < 1000 || others < 1000 {
		t.Errorf("only %d valid and %d other pipes", valid, others)
	}
}
