package tests

import (
	"math"
	"slices"
	"testing"

	"loop.example/pullstreams/impl"
)

// stack returns a pipe of nodes one above the other, over the source 0; their
// A is told anew.
func stack(nodes ...impl.Node) impl.Pipe {
	e := pipe(from(0))
	for i, n := range nodes {
		n.A = i
		e.Nodes = append(e.Nodes, n)
	}
	return e
}

// up returns a node for a stack.
func up(kind, n, m int) impl.Node {
	return over(kind, 0, n, m)
}

// joined returns a pipe of a kind over two stacks.
func joined(t *testing.T, a, b impl.Pipe, kind int) impl.Pipe {
	t.Helper()
	e, ok := impl.JoinPipes(a, b, kind)
	if !ok {
		t.Fatalf("JoinPipes(%v, %v, %d) failed", a, b, kind)
	}
	return e
}

// ruled returns a valid pipe of as many nodes, at many of which a rule can be
// applied.
func (d dice) ruled(nodes int) impl.Pipe {
	e := d.pipe(nodes)
	if d.IntN(2) == 0 {
		e = d.lineOf(nodes)
	}
	for i, n := range e.Nodes {
		if slices.Contains(kindsOfOne, n.Kind) {
			e.Nodes[i] = d.ruledNode(n, e.Nodes[n.A])
		}
	}
	return e
}

// ruledNode returns a node for the place of one, that has a rule with the node
// below it more often.
func (d dice) ruledNode(n, low impl.Node) impl.Node {
	out := n
	switch d.IntN(6) {
	case 0:
		out = idleNodes()[d.IntN(5)]
	case 1:
		if slices.Contains(kindsOfOne, low.Kind) {
			out = low
		}
	case 2:
		if slices.Contains(kindsOfOne, low.Kind) {
			out.Kind = low.Kind
			out.N, out.M = d.numbers(low.Kind)
		}
	case 3, 4:
		out.Kind = impl.NkMap
		if low.Kind == impl.NkMap {
			out.Kind = impl.NkTake
		}
		out.N, out.M = d.numbers(out.Kind)
	}
	out.A = n.A
	return out
}

// eachRuled calls a test for many valid pipes with rules, and sources.
func eachRuled(t *testing.T, test func(e impl.Pipe, src [][]int, d dice)) {
	t.Helper()
	d := newDice(40)
	rules := make([]int, 4)
	for round := range 4000 {
		e := d.ruled(1 + round%12)
		if !wantValid(e) {
			t.Fatalf("%v is not valid", e)
		}
		for i := range e.Nodes {
			rules[wantRule(e, i)]++
		}
		test(e, d.src(), d)
		if t.Failed() {
			return
		}
	}
	if slices.Min(rules) < 500 {
		t.Errorf("there were only so many of the rules: %v", rules)
	}
}

// checkRule holds RuleAt and ApplyRule against the model.
func checkRule(t *testing.T, e impl.Pipe, i int) {
	t.Helper()
	want := wantRule(e, i)
	if got := impl.RuleAt(e, i); got != want {
		t.Errorf("RuleAt(%v, %d) = %d, not %d", e, i, got, want)
	}
	f, ok := impl.ApplyRule(e, i)
	if want == impl.RuNone {
		if ok || len(f.Nodes) > 0 {
			t.Errorf("ApplyRule(%v, %d) = %v, %v", e, i, f, ok)
		}
		return
	}
	if applied := wantApplied(e, i); !ok || !samePipe(f, applied) {
		t.Errorf("ApplyRule(%v, %d) = %v, %v, not %v", e, i, f, ok, applied)
	}
}

// checkNormal holds the functions of normal pipes against the model.
func checkNormal(t *testing.T, e impl.Pipe) {
	t.Helper()
	want, rules := wantNormal(e)
	if got := impl.NormalPipe(e); !samePipe(got, want) {
		t.Errorf("NormalPipe(%v) = %v, not %v", e, got, want)
	}
	if got := impl.RulesFor(e); got != rules {
		t.Errorf("RulesFor(%v) = %d, not %d", e, got, rules)
	}
	if got := impl.IsNormal(e); got != (rules == 0) {
		t.Errorf("IsNormal(%v) = %v", e, got)
	}
}

// checkSame checks that two pipes give the same items with the same pulls.
func checkSame(t *testing.T, e, f impl.Pipe, src [][]int) {
	t.Helper()
	if !slices.Equal(impl.ListOf(e, src), impl.ListOf(f, src)) {
		t.Errorf("%v and %v have other lists for %v", e, f, src)
	}
	for _, k := range numbersOfPulls(impl.LengthOf(e, src)) {
		if !slices.Equal(impl.FirstItems(e, src, k), impl.FirstItems(f, src, k)) {
			t.Errorf("%d pulls of %v and %v give other items for %v", k, e, f, src)
		}
		if !samePulls(impl.PullsOf(e, src, k), impl.PullsOf(f, src, k)) {
			t.Errorf("%d pulls of %v and %v make other pulls for %v", k, e, f, src)
		}
	}
	if wantCompare(e, f, src) != impl.CoSame {
		t.Errorf("%v and %v differ for %v", e, f, src)
	}
}

func TestRulesOfOne(t *testing.T) {
	for _, n := range idleNodes() {
		if got := impl.RuleAt(stack(n), 1); got != impl.RuIdle {
			t.Errorf("RuleAt(%v) = %d", n, got)
		}
		for _, e := range []impl.Pipe{tangled(), two(impl.NkZip), one(impl.NkScan, 0, 0)} {
			above := putOn(t, e, n.Kind, n.N, n.M)
			if f, ok := impl.ApplyRule(above, len(e.Nodes)); !ok || !samePipe(f, impl.OrderPipe(e)) {
				t.Errorf("ApplyRule(%v) = %v, %v", above, f, ok)
			}
		}
	}
	for _, n := range []impl.Node{
		up(impl.NkMap, 0, 0), up(impl.NkMap, 1, 1), up(impl.NkMap, 0, 1), up(impl.NkMap, 2, 0), up(impl.NkMap, 1, 99), up(impl.NkMap, 99, 0),
		up(impl.NkFilter, 2, 0), up(impl.NkFilter, 2, 1), up(impl.NkFilter, 30, 0),
		up(impl.NkBatch, 2, 0), up(impl.NkBatch, 30, 0),
		up(impl.NkDrop, 1, 0), up(impl.NkDrop, 30, 0),
		up(impl.NkSkip, 1, 0), up(impl.NkSkip, 99, 0),
		up(impl.NkTake, 0, 0), up(impl.NkTake, 1, 0), up(impl.NkTake, 30, 0),
		up(impl.NkWhile, 0, 0), up(impl.NkWhile, 1, 0), up(impl.NkWhile, 99, 0),
		up(impl.NkScan, 0, 0), up(impl.NkOnce, 0, 0),
	} {
		e := stack(n)
		if got := impl.RuleAt(e, 1); got != impl.RuNone || !impl.IsNormal(e) {
			t.Errorf("RuleAt(%v) = %d", n, got)
		}
		checkRule(t, e, 1)
	}
}

// TestRulesOfPairs: the upper one of two nodes has a rule, or none, for each
// pair of kinds, with numbers at their limits and small ones.
func TestRulesOfPairs(t *testing.T) {
	var nodes []impl.Node
	for _, kind := range kindsOfOne {
		good, _ := edgesOf(kind)
		small := []pairOfNumbers{{0, 0}, {0, 1}, {1, 0}, {1, 1}, {2, 0}, {2, 1}, {3, 0}, {3, 1}, {15, 0}, {16, 0}, {29, 0}, {37, 53}}
		for _, p := range append(good, small...) {
			if n := up(kind, p.n, p.m); wantFit(n) {
				nodes = append(nodes, n)
			}
		}
	}
	src := [][]int{{3, 0, 0, 1, 2, 2, 99, 30, 1, 98, 4, 4}, nil, nil}
	for _, low := range nodes {
		for _, high := range nodes {
			e := stack(low, high)
			for i := range 3 {
				checkRule(t, e, i)
			}
			checkNormal(t, e)
			checkSame(t, e, impl.NormalPipe(e), src)
		}
	}
}

func TestRules(t *testing.T) {
	for _, c := range []struct {
		e    impl.Pipe
		i    int
		rule int
		want impl.Pipe
	}{
		// A node that does nothing is left out, even if it could be one with another one.
		{stack(up(impl.NkMap, 2, 3), up(impl.NkMap, 1, 0)), 2, impl.RuIdle, stack(up(impl.NkMap, 2, 3))},
		{stack(up(impl.NkDrop, 30, 0), up(impl.NkDrop, 0, 0)), 2, impl.RuIdle, stack(up(impl.NkDrop, 30, 0))},
		{stack(up(impl.NkSkip, 5, 0), up(impl.NkSkip, 0, 0)), 2, impl.RuIdle, stack(up(impl.NkSkip, 5, 0))},
		{stack(up(impl.NkFilter, 1, 0), up(impl.NkFilter, 1, 0)), 2, impl.RuIdle, stack(up(impl.NkFilter, 1, 0))},
		{stack(up(impl.NkBatch, 1, 0), up(impl.NkBatch, 1, 0)), 2, impl.RuIdle, stack(up(impl.NkBatch, 1, 0))},
		{stack(up(impl.NkBatch, 3, 0), up(impl.NkBatch, 1, 0)), 2, impl.RuIdle, stack(up(impl.NkBatch, 3, 0))},
		// One that does nothing and is below can be one with the one above it.
		{stack(up(impl.NkMap, 1, 0), up(impl.NkMap, 2, 3)), 2, impl.RuFuse, stack(up(impl.NkMap, 2, 3))},
		{stack(up(impl.NkDrop, 0, 0), up(impl.NkDrop, 30, 0)), 2, impl.RuFuse, stack(up(impl.NkDrop, 30, 0))},
		{stack(up(impl.NkSkip, 0, 0), up(impl.NkSkip, 5, 0)), 2, impl.RuFuse, stack(up(impl.NkSkip, 5, 0))},
		{stack(up(impl.NkMap, 1, 0), up(impl.NkTake, 2, 0)), 2, impl.RuSink, stack(up(impl.NkTake, 2, 0), up(impl.NkMap, 1, 0))},
		// Maps: first the lower one, and then the upper one.
		{stack(up(impl.NkMap, 2, 1), up(impl.NkMap, 3, 4)), 2, impl.RuFuse, stack(up(impl.NkMap, 6, 7))},
		{stack(up(impl.NkMap, 3, 4), up(impl.NkMap, 2, 1)), 2, impl.RuFuse, stack(up(impl.NkMap, 6, 9))},
		{stack(up(impl.NkMap, 99, 99), up(impl.NkMap, 99, 99)), 2, impl.RuFuse, stack(up(impl.NkMap, 1, 0))},
		{stack(up(impl.NkMap, 25, 50), up(impl.NkMap, 4, 7)), 2, impl.RuFuse, stack(up(impl.NkMap, 0, 7))},
		{stack(up(impl.NkMap, 1, 99), up(impl.NkMap, 1, 1)), 2, impl.RuFuse, stack(up(impl.NkMap, 1, 0))},
		// The lesser one, wherever it is, the greater one, and both together.
		{stack(up(impl.NkTake, 2, 0), up(impl.NkTake, 5, 0)), 2, impl.RuFuse, stack(up(impl.NkTake, 2, 0))},
		{stack(up(impl.NkTake, 5, 0), up(impl.NkTake, 2, 0)), 2, impl.RuFuse, stack(up(impl.NkTake, 2, 0))},
		{stack(up(impl.NkTake, 0, 0), up(impl.NkTake, 30, 0)), 2, impl.RuFuse, stack(up(impl.NkTake, 0, 0))},
		{stack(up(impl.NkWhile, 9, 0), up(impl.NkWhile, 4, 0)), 2, impl.RuFuse, stack(up(impl.NkWhile, 4, 0))},
		{stack(up(impl.NkWhile, 0, 0), up(impl.NkWhile, 99, 0)), 2, impl.RuFuse, stack(up(impl.NkWhile, 0, 0))},
		{stack(up(impl.NkSkip, 9, 0), up(impl.NkSkip, 4, 0)), 2, impl.RuFuse, stack(up(impl.NkSkip, 9, 0))},
		{stack(up(impl.NkSkip, 4, 0), up(impl.NkSkip, 99, 0)), 2, impl.RuFuse, stack(up(impl.NkSkip, 99, 0))},
		{stack(up(impl.NkDrop, 9, 0), up(impl.NkDrop, 4, 0)), 2, impl.RuFuse, stack(up(impl.NkDrop, 13, 0))},
		{stack(up(impl.NkOnce, 0, 0), up(impl.NkOnce, 0, 0)), 2, impl.RuFuse, stack(up(impl.NkOnce, 0, 0))},
		{stack(up(impl.NkFilter, 3, 2), up(impl.NkFilter, 3, 2)), 2, impl.RuFuse, stack(up(impl.NkFilter, 3, 2))},
		// Both together are just not too many, and one more.
		{stack(up(impl.NkDrop, 15, 0), up(impl.NkDrop, 15, 0)), 2, impl.RuFuse, stack(up(impl.NkDrop, 30, 0))},
		{stack(up(impl.NkDrop, 29, 0), up(impl.NkDrop, 1, 0)), 2, impl.RuFuse, stack(up(impl.NkDrop, 30, 0))},
		{stack(up(impl.NkDrop, 15, 0), up(impl.NkDrop, 16, 0)), 2, impl.RuNone, pipe()},
		{stack(up(impl.NkDrop, 30, 0), up(impl.NkDrop, 1, 0)), 2, impl.RuNone, pipe()},
		{stack(up(impl.NkDrop, 1, 0), up(impl.NkDrop, 30, 0)), 2, impl.RuNone, pipe()},
		{stack(up(impl.NkDrop, 30, 0), up(impl.NkDrop, 30, 0)), 2, impl.RuNone, pipe()},
		// Filters that differ, and kinds that are never one.
		{stack(up(impl.NkFilter, 2, 0), up(impl.NkFilter, 2, 1)), 2, impl.RuNone, pipe()},
		{stack(up(impl.NkFilter, 2, 0), up(impl.NkFilter, 4, 0)), 2, impl.RuNone, pipe()},
		{stack(up(impl.NkFilter, 4, 0), up(impl.NkFilter, 2, 0)), 2, impl.RuNone, pipe()},
		{stack(up(impl.NkScan, 0, 0), up(impl.NkScan, 0, 0)), 2, impl.RuNone, pipe()},
		{stack(up(impl.NkBatch, 2, 0), up(impl.NkBatch, 2, 0)), 2, impl.RuNone, pipe()},
		{stack(up(impl.NkTake, 2, 0), up(impl.NkMap, 2, 0)), 2, impl.RuNone, pipe()},
		{stack(up(impl.NkMap, 2, 0), up(impl.NkDrop, 2, 0)), 2, impl.RuNone, pipe()},
		{stack(up(impl.NkMap, 2, 0), up(impl.NkWhile, 2, 0)), 2, impl.RuNone, pipe()},
		{stack(up(impl.NkScan, 0, 0), up(impl.NkTake, 2, 0)), 2, impl.RuNone, pipe()},
		{stack(up(impl.NkDrop, 2, 0), up(impl.NkTake, 2, 0)), 2, impl.RuNone, pipe()},
		// The node above a pair stays where it is.
		{stack(up(impl.NkMap, 2, 0), up(impl.NkTake, 2, 0), up(impl.NkScan, 0, 0)), 2, impl.RuSink, stack(up(impl.NkTake, 2, 0), up(impl.NkMap, 2, 0), up(impl.NkScan, 0, 0))},
		{stack(up(impl.NkOnce, 0, 0), up(impl.NkSkip, 0, 0), up(impl.NkScan, 0, 0)), 2, impl.RuIdle, stack(up(impl.NkOnce, 0, 0), up(impl.NkScan, 0, 0))},
		{stack(up(impl.NkScan, 0, 0), up(impl.NkTake, 2, 0), up(impl.NkTake, 1, 0), up(impl.NkScan, 0, 0)), 3, impl.RuFuse, stack(up(impl.NkScan, 0, 0), up(impl.NkTake, 1, 0), up(impl.NkScan, 0, 0))},
	} {
		if got := impl.RuleAt(c.e, c.i); got != c.rule {
			t.Errorf("RuleAt(%v, %d) = %d, not %d", c.e, c.i, got, c.rule)
		}
		f, ok := impl.ApplyRule(c.e, c.i)
		if ok != (c.rule != impl.RuNone) || !samePipe(f, c.want) {
			t.Errorf("ApplyRule(%v, %d) = %v, %v", c.e, c.i, f, ok)
		}
		checkRule(t, c.e, c.i)
	}
}

// TestRulesBelowOtherNodes: a rule changes just the nodes at its place, on
// either side of a node with two below, and the pipe is in order then.
func TestRulesBelowOtherNodes(t *testing.T) {
	for _, kind := range kindsOfTwo {
		e := pipe(from(2), from(1), over(impl.NkMap, 0, 2, 3), over(impl.NkDrop, 1, 2, 0), over(impl.NkTake, 2, 4, 0), over(impl.NkDrop, 3, 3, 0), both(kind, 5, 4), over(impl.NkBatch, 6, 1, 0))
		for _, c := range []struct {
			i    int
			rule int
			want impl.Pipe
		}{
			{4, impl.RuSink, pipe(from(1), over(impl.NkDrop, 0, 2, 0), over(impl.NkDrop, 1, 3, 0), from(2), over(impl.NkTake, 3, 4, 0), over(impl.NkMap, 4, 2, 3), both(kind, 2, 5), over(impl.NkBatch, 6, 1, 0))},
			{5, impl.RuFuse, pipe(from(1), over(impl.NkDrop, 0, 5, 0), from(2), over(impl.NkMap, 2, 2, 3), over(impl.NkTake, 3, 4, 0), both(kind, 1, 4), over(impl.NkBatch, 5, 1, 0))},
			{7, impl.RuIdle, pipe(from(1), over(impl.NkDrop, 0, 2, 0), over(impl.NkDrop, 1, 3, 0), from(2), over(impl.NkMap, 3, 2, 3), over(impl.NkTake, 4, 4, 0), both(kind, 2, 5))},
			{0, impl.RuNone, pipe()},
			{2, impl.RuNone, pipe()},
			{3, impl.RuNone, pipe()},
			{6, impl.RuNone, pipe()},
		} {
			f, ok := impl.ApplyRule(e, c.i)
			if got := impl.RuleAt(e, c.i); got != c.rule || ok != (got != impl.RuNone) || !samePipe(f, c.want) {
				t.Errorf("RuleAt(%v, %d) = %d, and ApplyRule = %v, %v", e, c.i, got, f, ok)
			}
		}
		want := pipe(from(1), over(impl.NkDrop, 0, 5, 0), from(2), over(impl.NkTake, 2, 4, 0), over(impl.NkMap, 3, 2, 3), both(kind, 1, 4))
		if got := impl.NormalPipe(e); !samePipe(got, want) || impl.RulesFor(e) != 3 || impl.IsNormal(e) || !impl.IsNormal(want) {
			t.Errorf("NormalPipe(%v) = %v", e, got)
		}
		checkNormal(t, e)
	}
}

// TestNodesOfOneKindApart: nodes are one only if just they stand together.
func TestNodesOfOneKindApart(t *testing.T) {
	for _, kind := range kindsOfOne {
		if kind == impl.NkScan {
			continue
		}
		n := up(kind, 2, 0)
		if kind == impl.NkOnce {
			n.N = 0
		}
		e := putOn(t, joined(t, stack(n), stack(n), impl.NkTurn), kind, n.N, 0)
		apart := stack(n, up(impl.NkScan, 0, 0), n)
		if !impl.IsNormal(e) || !impl.IsNormal(apart) || impl.RulesFor(e) != 0 || !samePipe(impl.NormalPipe(apart), apart) {
			t.Errorf("%v or %v is not normal", e, apart)
		}
	}
}

func TestNormalPipes(t *testing.T) {
	drops := func(numbers ...int) impl.Pipe {
		e := stack()
		for i, n := range numbers {
			e.Nodes = append(e.Nodes, over(impl.NkDrop, i, n, 0))
		}
		return e
	}
	mapTake := []impl.Node{up(impl.NkMap, 2, 1), up(impl.NkTake, 9, 0)}
	for _, c := range []struct {
		e     impl.Pipe
		want  impl.Pipe
		rules int
	}{
		{pipe(from(2)), pipe(from(2)), 0},
		{tangled(), impl.OrderPipe(tangled()), 0},
		{tower(12), stack(up(impl.NkMap, 1, 11)), 10},
		// The lower ones are one first, so that it matters where they are too many.
		{drops(10, 10, 10), drops(30), 2},
		{drops(10, 10, 10, 1), drops(30, 1), 2},
		{drops(20, 10, 15), drops(30, 15), 1},
		{drops(20, 15, 10), drops(20, 25), 1},
		{drops(20, 20, 20), drops(20, 20, 20), 0},
		{drops(16, 15, 15, 16), drops(16, 30, 16), 1},
		{drops(16, 15, 14, 2, 1), drops(16, 29, 3), 2},
		{drops(0, 30, 0, 30, 0), drops(30, 30), 3},
		// A pipe of nodes that do nothing is its source.
		{stack(idleNodes()...), stack(), 5},
		{stack(append(idleNodes(), idleNodes()...)...), stack(), 10},
		// What becomes one can do nothing then, and what stands together then can be one.
		{stack(up(impl.NkMap, 99, 0), up(impl.NkMap, 99, 0)), stack(), 2},
		{stack(up(impl.NkTake, 4, 0), up(impl.NkMap, 99, 7), up(impl.NkMap, 99, 7), up(impl.NkTake, 3, 0)), stack(up(impl.NkTake, 3, 0)), 3},
		{stack(up(impl.NkOnce, 0, 0), up(impl.NkDrop, 0, 0), up(impl.NkOnce, 0, 0)), stack(up(impl.NkOnce, 0, 0)), 2},
		{stack(up(impl.NkFilter, 3, 1), up(impl.NkBatch, 1, 0), up(impl.NkFilter, 3, 1)), stack(up(impl.NkFilter, 3, 1)), 2},
		// Each take sinks below all maps.
		{stack(up(impl.NkMap, 2, 1), up(impl.NkTake, 9, 0)), stack(up(impl.NkTake, 9, 0), up(impl.NkMap, 2, 1)), 1},
		{stack(slices.Concat(mapTake, mapTake)...), stack(up(impl.NkTake, 9, 0), up(impl.NkMap, 4, 3)), 4},
		{stack(slices.Concat(mapTake, mapTake, mapTake)...), stack(up(impl.NkTake, 9, 0), up(impl.NkMap, 8, 7)), 7},
		{stack(slices.Concat(mapTake, mapTake, mapTake, mapTake, mapTake)...), stack(up(impl.NkTake, 9, 0), up(impl.NkMap, 32, 31)), 13},
		{stack(up(impl.NkTake, 3, 0), up(impl.NkMap, 2, 1), up(impl.NkTake, 5, 0), up(impl.NkMap, 3, 0), up(impl.NkTake, 1, 0)), stack(up(impl.NkTake, 1, 0), up(impl.NkMap, 6, 3)), 5},
	} {
		if got := impl.NormalPipe(c.e); !samePipe(got, c.want) {
			t.Errorf("NormalPipe(%v) = %v, not %v", c.e, got, c.want)
		}
		if got := impl.RulesFor(c.e); got != c.rules {
			t.Errorf("RulesFor(%v) = %d, not %d", c.e, got, c.rules)
		}
		if impl.IsNormal(c.e) != (c.rules == 0) || !impl.IsNormal(c.want) {
			t.Errorf("IsNormal(%v) = %v", c.e, c.rules > 0)
		}
		checkNormal(t, c.e)
	}
}

func TestRulesOfAllPipes(t *testing.T) {
	eachRuled(t, func(e impl.Pipe, _ [][]int, _ dice) {
		for i := range e.Nodes {
			checkRule(t, e, i)
		}
		checkNormal(t, e)
	})
}

// TestP35NodesWithOneBelow: RuleAt is RuNone for sources and for nodes with two
// below, and ApplyRule is possible exactly if it is another one.
func TestP35NodesWithOneBelow(t *testing.T) {
	eachRuled(t, func(e impl.Pipe, _ [][]int, _ dice) {
		for i, n := range e.Nodes {
			rule := impl.RuleAt(e, i)
			if rule < impl.RuNone || rule > impl.RuSink || rule != impl.RuNone && !slices.Contains(kindsOfOne, n.Kind) {
				t.Errorf("RuleAt(%v, %d) = %d", e, i, rule)
			}
			f, ok := impl.ApplyRule(e, i)
			if ok != (rule != impl.RuNone) || ok != (len(f.Nodes) > 0) {
				t.Errorf("RuleAt(%v, %d) = %d, and ApplyRule = %v, %v", e, i, rule, f, ok)
			}
		}
	})
}

// TestP36RulesKeepListsAndPulls: ApplyRule gives the same items with the same
// pulls, for any number of pulls, and a pipe in order, of which just a rule
// that sinks does not leave out a node.
func TestP36RulesKeepListsAndPulls(t *testing.T) {
	eachRuled(t, func(e impl.Pipe, src [][]int, _ dice) {
		for i := range e.Nodes {
			f, ok := impl.ApplyRule(e, i)
			if !ok {
				continue
			}
			if !impl.ValidPipe(f) || !samePipe(f, impl.OrderPipe(f)) {
				t.Errorf("ApplyRule(%v, %d) = %v", e, i, f)
			}
			if len(f.Nodes) != len(e.Nodes)-yes(impl.RuleAt(e, i) != impl.RuSink) {
				t.Errorf("ApplyRule(%v, %d) = %v has another number of nodes", e, i, f)
			}
			checkSame(t, e, f, src)
		}
	})
}

// TestP37RulesKeepPullsForSmallLists: no small list tells ApplyRule from the
// pipe.
func TestP37RulesKeepPullsForSmallLists(t *testing.T) {
	check := func(e impl.Pipe) {
		for i := range e.Nodes {
			f, ok := impl.ApplyRule(e, i)
			if !ok {
				continue
			}
			for _, how := range []int{impl.CoList, impl.CoOther} {
				if list, ok := impl.WitnessFor(e, f, how); ok || len(list) > 0 {
					t.Errorf("WitnessFor(%v, %v, %d) = %v", e, f, how, list)
				}
			}
			if list, ok := wantWitness(e, f, impl.CoList); ok {
				t.Errorf("%v tells ApplyRule(%v, %d) = %v", list, e, i, f)
			}
		}
	}
	d := newDice(37)
	for round := range 600 {
		check(impl.MoveSources(d.ruled(2+round%11), []int{0, 0, 1}))
	}
	for _, low := range kindsOfOne {
		for _, high := range []int{low, impl.NkTake, impl.NkDrop} {
			for n := range 4 {
				for m := range 4 {
					if e := stack(up(low, n, 0), up(high, m, 0)); wantValid(e) {
						check(e)
					}
				}
			}
		}
	}
}

// TestP38NormalPipesHaveNoRules: IsNormal holds exactly if RuleAt each node is
// RuNone, and of parts of normal pipes, too.
func TestP38NormalPipesHaveNoRules(t *testing.T) {
	normal, others := 0, 0
	eachRuled(t, func(e impl.Pipe, _ [][]int, d dice) {
		for _, p := range []impl.Pipe{e, impl.NormalPipe(e), d.pipe(d.upTo(1, 6))} {
			rules := 0
			for i := range p.Nodes {
				rules += yes(impl.RuleAt(p, i) != impl.RuNone)
			}
			if impl.IsNormal(p) != (rules == 0) {
				t.Errorf("IsNormal(%v) = %v, but %d nodes have rules", p, rules > 0, rules)
			}
			normal += yes(rules == 0)
			others += yes(rules > 0)
			for i := range p.Nodes {
				if part := impl.PartOf(p, i); rules == 0 && !impl.IsNormal(part) {
					t.Errorf("IsNormal(%v) = false, but the pipe is a part of %v", part, p)
				}
			}
		}
	})
	if normal < 1000 || others < 1000 {
		t.Errorf("only %d pipes were normal, and %d were not", normal, others)
	}
}

// TestP39NormalFormsAreTheSamePipes: NormalPipe IsNormal, gives the same items
// with the same pulls, and is its own normal form.
func TestP39NormalFormsAreTheSamePipes(t *testing.T) {
	eachRuled(t, func(e impl.Pipe, src [][]int, _ dice) {
		normal := impl.NormalPipe(e)
		if !impl.ValidPipe(normal) || !impl.IsNormal(normal) || len(normal.Nodes) > len(e.Nodes) {
			t.Errorf("NormalPipe(%v) = %v", e, normal)
		}
		if !samePipe(impl.NormalPipe(normal), normal) || !samePipe(impl.OrderPipe(normal), normal) {
			t.Errorf("NormalPipe(%v) = %v is not its own, in order", e, normal)
		}
		if !samePipe(impl.NormalPipe(impl.OrderPipe(e)), normal) {
			t.Errorf("NormalPipe(%v) is another one in order", e)
		}
		checkSame(t, e, normal, src)
	})
}

// TestP40NormalPipesNeedNoRules: RulesFor is 0 exactly for pipes that are
// normal in order.
func TestP40NormalPipesNeedNoRules(t *testing.T) {
	none, some := 0, 0
	eachRuled(t, func(e impl.Pipe, _ [][]int, d dice) {
		for _, p := range []impl.Pipe{e, impl.NormalPipe(e), d.pipe(d.upTo(1, 6))} {
			rules := impl.RulesFor(p)
			if rules < 0 || (rules == 0) != impl.IsNormal(impl.OrderPipe(p)) || (rules == 0) != samePipe(impl.NormalPipe(p), impl.OrderPipe(p)) {
				t.Errorf("RulesFor(%v) = %d", p, rules)
			}
			none += yes(rules == 0)
			some += yes(rules > 1)
		}
	})
	if none < 1000 || some < 1000 {
		t.Errorf("only %d pipes needed no rules, and %d several", none, some)
	}
}

// TestP41SwappedZipsKeepTheList: ListOf SwapZip is the same, and swapped back
// it is OrderPipe.
func TestP41SwappedZipsKeepTheList(t *testing.T) {
	swaps, others := 0, 0
	check := func(e impl.Pipe, src [][]int) {
		for i, n := range e.Nodes {
			swapped, ok := impl.SwapZip(e, i)
			if ok != (n.Kind == impl.NkZip) || ok != (len(swapped.Nodes) > 0) {
				t.Errorf("SwapZip(%v, %d) = %v, %v", e, i, swapped, ok)
			}
			if !ok {
				continue
			}
			changed := impl.Pipe{Nodes: slices.Clone(e.Nodes)}
			changed.Nodes[i].A, changed.Nodes[i].B = n.B, n.A
			if !samePipe(swapped, wantPart(changed, len(e.Nodes)-1)) || !impl.ValidPipe(swapped) {
				t.Errorf("SwapZip(%v, %d) = %v", e, i, swapped)
			}
			if !slices.Equal(impl.ListOf(swapped, src), impl.ListOf(e, src)) {
				t.Errorf("SwapZip(%v, %d) has another list for %v", e, i, src)
			}
			// The zip has as many nodes after it as before.
			at := slices.Index(wantOrder(e, len(e.Nodes)-1), i)
			if back, ok := impl.SwapZip(swapped, at); !ok || !samePipe(back, impl.OrderPipe(e)) {
				t.Errorf("SwapZip(%v, %d) = %v", swapped, at, back)
			}
			swaps++
			others += yes(!samePulls(impl.PullsOf(e, src, 200), impl.PullsOf(swapped, src, 200)))
		}
	}
	eachPipe(t, 12, func(e impl.Pipe, src [][]int, d dice) {
		check(e, src)
		for i, n := range e.Nodes {
			if slices.Contains(kindsOfTwo, n.Kind) && d.IntN(2) == 0 {
				e.Nodes[i].Kind = impl.NkZip
			}
		}
		check(e, src)
	})
	if swaps < 1000 || others < 500 {
		t.Errorf("only %d zips were swapped, %d with other pulls", swaps, others)
	}
}

func TestSwappedZips(t *testing.T) {
	if e, ok := impl.SwapZip(two(impl.NkZip), 2); !ok || !samePipe(e, pipe(from(1), from(0), both(impl.NkZip, 0, 1))) {
		t.Errorf("SwapZip = %v, %v", e, ok)
	}
	if e, ok := impl.SwapZip(twin(impl.NkZip), 2); !ok || !samePipe(e, twin(impl.NkZip)) {
		t.Errorf("SwapZip = %v, %v", e, ok)
	}
	// Zips below a zip, and below others: just one is swapped, and all is in order.
	e := pipe(from(2), from(0), from(1), over(impl.NkTake, 0, 3, 0), both(impl.NkZip, 1, 3), both(impl.NkZip, 2, 4), over(impl.NkDrop, 5, 1, 0))
	for i, want := range map[int]impl.Pipe{
		4: pipe(from(1), from(2), over(impl.NkTake, 1, 3, 0), from(0), both(impl.NkZip, 2, 3), both(impl.NkZip, 0, 4), over(impl.NkDrop, 5, 1, 0)),
		5: pipe(from(0), from(2), over(impl.NkTake, 1, 3, 0), both(impl.NkZip, 0, 2), from(1), both(impl.NkZip, 3, 4), over(impl.NkDrop, 5, 1, 0)),
	} {
		if got, ok := impl.SwapZip(e, i); !ok || !samePipe(got, want) {
			t.Errorf("SwapZip(%v, %d) = %v", e, i, got)
		}
	}
	for _, i := range []int{-1, 0, 1, 2, 3, 6, 7, math.MinInt, math.MaxInt} {
		if got, ok := impl.SwapZip(e, i); ok || len(got.Nodes) > 0 {
			t.Errorf("SwapZip(%v, %d) = %v, %v", e, i, got, ok)
		}
	}
	for _, kind := range kindsOfTwo {
		got, ok := impl.SwapZip(two(kind), 2)
		if ok != (kind == impl.NkZip) || !ok && len(got.Nodes) > 0 {
			t.Errorf("SwapZip of the kind %d = %v, %v", kind, got, ok)
		}
	}
}

// checkNoRules checks that there are no rules for the node i of a pipe.
func checkNoRules(t *testing.T, e impl.Pipe, i int) {
	t.Helper()
	if got := impl.RuleAt(e, i); got != -1 {
		t.Errorf("RuleAt(%v, %d) = %d", e, i, got)
	}
	if f, ok := impl.ApplyRule(e, i); ok || len(f.Nodes) > 0 {
		t.Errorf("ApplyRule(%v, %d) = %v, %v", e, i, f, ok)
	}
	if f, ok := impl.SwapZip(e, i); ok || len(f.Nodes) > 0 {
		t.Errorf("SwapZip(%v, %d) = %v, %v", e, i, f, ok)
	}
}

// checkNoNormal checks that there is no normal form of a pipe.
func checkNoNormal(t *testing.T, e impl.Pipe) {
	t.Helper()
	if normal := impl.NormalPipe(e); len(normal.Nodes) > 0 {
		t.Errorf("NormalPipe(%v) = %v", e, normal)
	}
	if impl.IsNormal(e) || impl.RulesFor(e) != -1 {
		t.Errorf("IsNormal or RulesFor(%v) has a result", e)
	}
}

func TestRulesOfOtherArguments(t *testing.T) {
	for _, e := range badPipes() {
		checkNoNormal(t, e)
		for i := -1; i <= len(e.Nodes); i++ {
			checkNoRules(t, e, i)
		}
	}
	for _, e := range []impl.Pipe{tower(1), tower(12), tangled(), two(impl.NkZip)} {
		for _, i := range []int{-1, -2, len(e.Nodes), len(e.Nodes) + 1, math.MinInt, math.MaxInt} {
			checkNoRules(t, e, i)
		}
	}
}
