package tests

import (
	"math"
	"slices"
	"testing"

	"loop.example/pullstreams/impl"
)

// checkResume holds ResumeGen against the model.
func checkResume(t *testing.T, code []impl.Order, g impl.Gen, r impl.Resume) impl.Event {
	t.Helper()
	want, wantEvent := wantResumed(code, g, r)
	got, e := impl.ResumeGen(code, g, r)
	if got != want || e != wantEvent {
		t.Errorf("ResumeGen(%v, %v, %v) = %v, %v, not %v, %v", code, g, r, got, e, want, wantEvent)
	}
	return e
}

// checkNoResume checks the result for arguments that are not valid.
func checkNoResume(t *testing.T, code []impl.Order, g impl.Gen, r impl.Resume) {
	t.Helper()
	if got, e := impl.ResumeGen(code, g, r); got != (impl.Gen{}) || e != (impl.Event{}) {
		t.Errorf("ResumeGen(%v, %v, %v) = %v, %v", code, g, r, got, e)
	}
}

func TestResumesAgainstTheModel(t *testing.T) {
	seen := make([][4][7]int, 3) // by the phase, the kind of resume, and that of the event
	eachCode(t, func(code []impl.Order, d dice) {
		for range 10 {
			g := d.gen(code)
			for _, r := range append(allResumes(), d.resume()) {
				e := checkResume(t, code, g, r)
				seen[g.Phase][r.Kind][e.Kind]++
			}
		}
	})
	waits := seen[impl.PhWait]
	for _, kind := range []int{impl.EvYield, impl.EvReturn, impl.EvRaise, impl.EvStuck} {
		for _, n := range []int{seen[impl.PhNew][impl.ReNext][kind], waits[impl.ReNext][kind], waits[impl.ReSend][kind], waits[impl.ReThrow][kind]} {
			if n < 300 {
				t.Errorf("the event %d came only %d times", kind, n)
			}
		}
	}
	for _, kind := range []int{impl.EvBad, impl.EvClosed, impl.EvStuck} {
		if n := waits[impl.ReClose][kind]; n < 300 {
			t.Errorf("the event %d came only %d times when a generator was closed", kind, n)
		}
	}
}

func TestResumeGen(t *testing.T) {
	next, send := resume(impl.ReNext, 0), resume(impl.ReSend, 4)
	throw, shut := resume(impl.ReThrow, 0), resume(impl.ReClose, 0)
	fresh := gen(0, 0, 0, -1, impl.PhNew)
	for _, c := range []struct {
		code []impl.Order
		g    impl.Gen
		r    impl.Resume
		want impl.Gen
		e    impl.Event
	}{
		// A yield leaves the sum as it is, and gives the rest.
		{[]impl.Order{order(impl.GyYield, 5, 0)}, fresh, next, gen(1, 0, 0, -1, impl.PhWait), event(impl.EvYield, 5)},
		{[]impl.Order{order(impl.GyYield, 60, 0)}, gen(0, 50, 3, -1, impl.PhNew), next, gen(1, 50, 0, -1, impl.PhWait), event(impl.EvYield, 10)},
		{[]impl.Order{order(impl.GyYield, 1, 0)}, gen(0, 99, 0, -1, impl.PhWait), next, gen(1, 99, 0, -1, impl.PhWait), event(impl.EvYield, 0)},
		// What is added is the rest as well.
		{[]impl.Order{order(impl.GyAdd, 60, 0)}, gen(0, 50, 0, -1, impl.PhWait), next, gen(1, 10, 0, -1, impl.PhDone), event(impl.EvReturn, 10)},
		{[]impl.Order{order(impl.GyAdd, 1, 0)}, gen(0, 99, 0, -1, impl.PhWait), next, gen(1, 0, 0, -1, impl.PhDone), event(impl.EvReturn, 0)},
		{[]impl.Order{order(impl.GySent, 0, 0)}, gen(0, 50, 9, -1, impl.PhWait), resume(impl.ReSend, 60), gen(1, 10, 60, -1, impl.PhDone), event(impl.EvReturn, 10)},
		{[]impl.Order{order(impl.GySent, 0, 0), order(impl.GySent, 0, 0)}, gen(0, 1, 9, -1, impl.PhWait), send, gen(2, 9, 4, -1, impl.PhDone), event(impl.EvReturn, 9)},
		{[]impl.Order{order(impl.GySent, 0, 0)}, gen(0, 1, 9, -1, impl.PhWait), next, gen(1, 1, 0, -1, impl.PhDone), event(impl.EvReturn, 1)},
		{[]impl.Order{order(impl.GySent, 0, 0)}, gen(0, 1, 9, 0, impl.PhWait), throw, gen(1, 10, 9, -1, impl.PhDone), event(impl.EvReturn, 10)},
		{[]impl.Order{order(impl.GySent, 0, 0)}, gen(0, 1, 9, 0, impl.PhWait), shut, gen(1, 10, 9, -1, impl.PhDone), event(impl.EvClosed, 0)},
		// A return leaves what is behind it.
		{[]impl.Order{order(impl.GyReturn, 0, 0), order(impl.GyAdd, 1, 0)}, gen(0, 7, 0, 1, impl.PhWait), next, gen(1, 7, 0, 1, impl.PhDone), event(impl.EvReturn, 7)},
		// An order comes next if the sum is less, not if it is as great.
		{[]impl.Order{order(impl.GyBack, 7, 2), order(impl.GyYield, 1, 0), order(impl.GyYield, 2, 0)}, gen(0, 6, 0, -1, impl.PhWait), next, gen(3, 6, 0, -1, impl.PhWait), event(impl.EvYield, 8)},
		{[]impl.Order{order(impl.GyBack, 7, 2), order(impl.GyYield, 1, 0), order(impl.GyYield, 2, 0)}, gen(0, 7, 0, -1, impl.PhWait), next, gen(2, 7, 0, -1, impl.PhWait), event(impl.EvYield, 8)},
		// Handlers are set, left out, and used up.
		{[]impl.Order{order(impl.GyTry, 0, 2), order(impl.GyRaise, 0, 0), order(impl.GyYield, 9, 0)}, fresh, next, gen(3, 0, 0, -1, impl.PhWait), event(impl.EvYield, 9)},
		{[]impl.Order{order(impl.GyTry, 0, 0), order(impl.GyEnd, 0, 0), order(impl.GyRaise, 0, 0)}, fresh, next, gen(3, 0, 0, -1, impl.PhDone), event(impl.EvRaise, 0)},
		{[]impl.Order{order(impl.GyRaise, 0, 0), order(impl.GyAdd, 1, 0)}, gen(0, 5, 0, 0, impl.PhWait), next, gen(1, 5, 0, -1, impl.PhDone), event(impl.EvRaise, 0)},
		{[]impl.Order{order(impl.GyTry, 0, 1), order(impl.GyTry, 0, 0), order(impl.GyYield, 0, 0)}, fresh, next, gen(3, 0, 0, 0, impl.PhWait), event(impl.EvYield, 0)},
		// A new generator is not thrown into its handler, nor closed by it.
		{[]impl.Order{order(impl.GyYield, 0, 0)}, gen(0, 5, 6, 0, impl.PhNew), throw, gen(0, 5, 6, 0, impl.PhDone), event(impl.EvRaise, 0)},
		{[]impl.Order{order(impl.GyYield, 0, 0)}, gen(1, 5, 6, 0, impl.PhNew), shut, gen(1, 5, 6, 0, impl.PhDone), event(impl.EvClosed, 0)},
		{[]impl.Order{order(impl.GyYield, 0, 0)}, gen(1, 5, 6, 0, impl.PhNew), send, gen(1, 5, 6, 0, impl.PhNew), event(impl.EvBad, 0)},
		{[]impl.Order{order(impl.GyYield, 0, 0)}, gen(1, 5, 6, 0, impl.PhNew), next, gen(1, 5, 0, 0, impl.PhDone), event(impl.EvReturn, 5)},
		// One that waits without a handler stays where it is.
		{[]impl.Order{order(impl.GyYield, 0, 0)}, gen(1, 5, 6, -1, impl.PhWait), throw, gen(1, 5, 6, -1, impl.PhDone), event(impl.EvRaise, 0)},
		{[]impl.Order{order(impl.GyYield, 0, 0)}, gen(0, 5, 6, -1, impl.PhWait), shut, gen(0, 5, 6, -1, impl.PhDone), event(impl.EvClosed, 0)},
		// One with a handler yields, returns or raises when it is closed.
		{[]impl.Order{order(impl.GyYield, 3, 0)}, gen(1, 5, 6, 0, impl.PhWait), shut, gen(1, 5, 6, -1, impl.PhWait), event(impl.EvBad, 0)},
		{[]impl.Order{order(impl.GyYield, 3, 0)}, gen(1, 5, 6, 0, impl.PhWait), throw, gen(1, 5, 6, -1, impl.PhWait), event(impl.EvYield, 8)},
		{[]impl.Order{order(impl.GyReturn, 0, 0)}, gen(1, 5, 6, 0, impl.PhWait), shut, gen(1, 5, 6, -1, impl.PhDone), event(impl.EvClosed, 0)},
		{[]impl.Order{order(impl.GyReturn, 0, 0)}, gen(1, 5, 6, 0, impl.PhWait), throw, gen(1, 5, 6, -1, impl.PhDone), event(impl.EvReturn, 5)},
		{[]impl.Order{order(impl.GyRaise, 0, 0)}, gen(1, 5, 6, 0, impl.PhWait), shut, gen(1, 5, 6, -1, impl.PhDone), event(impl.EvClosed, 0)},
		{[]impl.Order{order(impl.GyRaise, 0, 0)}, gen(1, 5, 6, 0, impl.PhWait), throw, gen(1, 5, 6, -1, impl.PhDone), event(impl.EvRaise, 0)},
		// Codes without orders return at once, in whatever phase they wait.
		{nil, fresh, next, gen(0, 0, 0, -1, impl.PhDone), event(impl.EvReturn, 0)},
		{nil, fresh, send, fresh, event(impl.EvBad, 0)},
		{nil, gen(0, 99, 5, -1, impl.PhWait), send, gen(0, 99, 4, -1, impl.PhDone), event(impl.EvReturn, 99)},
		{nil, gen(0, 99, 5, -1, impl.PhWait), throw, gen(0, 99, 5, -1, impl.PhDone), event(impl.EvRaise, 0)},
		{nil, gen(0, 99, 5, -1, impl.PhWait), shut, gen(0, 99, 5, -1, impl.PhDone), event(impl.EvClosed, 0)},
		// Nothing changes one that is done.
		{adds(2), gen(1, 5, 6, 0, impl.PhDone), next, gen(1, 5, 6, 0, impl.PhDone), event(impl.EvEnded, 0)},
		{adds(2), gen(1, 5, 6, 0, impl.PhDone), send, gen(1, 5, 6, 0, impl.PhDone), event(impl.EvEnded, 0)},
		{adds(2), gen(1, 5, 6, 0, impl.PhDone), throw, gen(1, 5, 6, 0, impl.PhDone), event(impl.EvRaise, 0)},
		{adds(2), gen(1, 5, 6, 0, impl.PhDone), shut, gen(1, 5, 6, 0, impl.PhDone), event(impl.EvClosed, 0)},
	} {
		if got, e := impl.ResumeGen(c.code, c.g, c.r); got != c.want || e != c.e {
			t.Errorf("ResumeGen(%v, %v, %v) = %v, %v, not %v, %v", c.code, c.g, c.r, got, e, c.want, c.e)
		}
		checkResume(t, c.code, c.g, c.r)
	}
}

// TestNumbersSentTooEarly: a new generator stays as it is, however often a
// number is sent, and begins as if nothing had been sent.
func TestNumbersSentTooEarly(t *testing.T) {
	code := []impl.Order{order(impl.GySent, 0, 0), order(impl.GyYield, 1, 0), order(impl.GySent, 0, 0)}
	g := impl.NewGen(code)
	for value := range 100 {
		next, e := impl.ResumeGen(code, g, resume(impl.ReSend, value))
		if next != g || e != event(impl.EvBad, 0) {
			t.Errorf("ResumeGen(%v, %v) with %d = %v, %v", code, g, value, next, e)
		}
	}
	list := []impl.Resume{resume(impl.ReSend, 9), resume(impl.ReSend, 0), resume(impl.ReNext, 0), resume(impl.ReSend, 9)}
	want := []impl.Event{event(impl.EvBad, 0), event(impl.EvBad, 0), event(impl.EvYield, 1), event(impl.EvReturn, 9)}
	if got := impl.RunGen(code, list); !slices.Equal(got, want) {
		t.Errorf("RunGen(%v, %v) = %v", code, list, got)
	}
}

// looped returns a code whose first two orders are done as often as told, which
// are twice as many orders, and more orders behind them.
func looped(times int, others ...impl.Order) []impl.Order {
	return append([]impl.Order{order(impl.GyAdd, 1, 0), order(impl.GyBack, times, 0)}, others...)
}

// TestStuckGenerators: the order MaxSteps may give an event, and a later one is
// not done any more.
func TestStuckGenerators(t *testing.T) {
	add, yield, back := order(impl.GyAdd, 0, 0), order(impl.GyYield, 0, 0), order(impl.GyReturn, 0, 0)
	raise, try := order(impl.GyRaise, 0, 0), order(impl.GyTry, 0, 0)
	for _, c := range []struct {
		code []impl.Order
		at   int
		sum  int
		kind int
	}{
		{looped(29, add, yield), 4, 29, impl.EvYield},
		{looped(29, add, add, yield), 4, 29, impl.EvStuck},
		{looped(29, add, back), 4, 29, impl.EvReturn},
		{looped(29, add, add, back), 4, 29, impl.EvStuck},
		{looped(29, add, raise), 4, 29, impl.EvRaise},
		{looped(29, add, add, raise), 4, 29, impl.EvStuck},
		{looped(29, add), 3, 29, impl.EvReturn},
		{looped(29, add, add), 4, 29, impl.EvStuck}, // the end comes too late
		{looped(30, yield), 2, 30, impl.EvStuck},
		{looped(30), 2, 30, impl.EvStuck},
		{looped(31), 0, 30, impl.EvStuck},
		{looped(99), 0, 30, impl.EvStuck},
		{looped(28, try, raise), 2, 29, impl.EvStuck}, // to raise is an order, too
		{[]impl.Order{order(impl.GyBack, 99, 0)}, 0, 0, impl.EvStuck},
		{[]impl.Order{try, raise}, 0, 0, impl.EvStuck}, // the handler is set again and again
	} {
		g, e := impl.ResumeGen(c.code, impl.NewGen(c.code), resume(impl.ReNext, 0))
		if g.At != c.at || g.Sum != c.sum || e.Kind != c.kind {
			t.Errorf("ResumeGen(%v) = %v, %v, not the event %d", c.code, g, e, c.kind)
		}
		checkResume(t, c.code, impl.NewGen(c.code), resume(impl.ReNext, 0))
	}
}

// TestThrowsAreNoOrders: what is thrown, or closes a generator, leaves all of
// MaxSteps orders to the handler.
func TestThrowsAreNoOrders(t *testing.T) {
	add, yield := order(impl.GyAdd, 0, 0), order(impl.GyYield, 0, 0)
	for _, r := range []impl.Resume{resume(impl.ReThrow, 0), resume(impl.ReClose, 0)} {
		closes := r.Kind == impl.ReClose
		code := looped(29, add, yield)
		g, e := impl.ResumeGen(code, gen(4, 0, 0, 0, impl.PhWait), r)
		if g != gen(4, 29, 0, -1, impl.PhWait) || closes && e != event(impl.EvBad, 0) || !closes && e != event(impl.EvYield, 29) {
			t.Errorf("ResumeGen(%v) of %v = %v, %v", code, r, g, e)
		}
		code = looped(29, add, add, yield)
		g, e = impl.ResumeGen(code, gen(5, 0, 0, 0, impl.PhWait), r)
		if g != gen(4, 29, 0, -1, impl.PhDone) || e != event(impl.EvStuck, 0) {
			t.Errorf("ResumeGen(%v) of %v = %v, %v", code, r, g, e)
		}
		checkResume(t, code, gen(5, 0, 0, 0, impl.PhWait), r)
	}
}

// TestOtherResumes: arguments that are not valid have the fixed result.
func TestOtherResumes(t *testing.T) {
	for _, code := range badCodes() {
		for _, r := range allResumes() {
			checkNoResume(t, code, gen(0, 0, 0, -1, impl.PhNew), r)
			checkNoResume(t, code, gen(0, 5, 5, -1, impl.PhWait), r)
			checkNoResume(t, code, gen(0, 5, 5, -1, impl.PhDone), r)
		}
	}
	for _, code := range [][]impl.Order{nil, adds(1), adds(10)} {
		for _, g := range append(badGens(), gen(len(code)+1, 0, 0, -1, impl.PhWait), gen(0, 0, 0, len(code), impl.PhDone)) {
			for _, r := range allResumes() {
				checkNoResume(t, code, g, r)
			}
		}
		for _, r := range badResumes() {
			for phase := range 3 {
				checkNoResume(t, code, gen(0, 5, 6, -1, phase), r)
			}
		}
	}
	checkNoResume(t, nil, impl.Gen{}, impl.Resume{}) // no order can be its handler
	checkNoResume(t, adds(1), gen(math.MaxInt, math.MinInt, math.MaxInt, math.MinInt, math.MaxInt), resume(math.MinInt, math.MaxInt))
}

// TestP58DoneIsDone: after an event other than EvYield and EvBad the generator
// is done, and a done one stays as it is.
func TestP58DoneIsDone(t *testing.T) {
	ends := 0
	eachCode(t, func(code []impl.Order, d dice) {
		g := d.gen(code)
		for range 6 {
			r := d.resume()
			next, e := impl.ResumeGen(code, g, r)
			goesOn := e.Kind == impl.EvYield || e.Kind == impl.EvBad
			if goesOn == (next.Phase == impl.PhDone) {
				t.Fatalf("ResumeGen(%v, %v, %v) = %v, %v", code, g, r, next, e)
			}
			if e.Kind != impl.EvYield && e.Kind != impl.EvReturn && e.Value != 0 {
				t.Fatalf("ResumeGen(%v, %v, %v) gives %v", code, g, r, e)
			}
			if g.Phase == impl.PhDone && next != g {
				t.Fatalf("ResumeGen(%v, %v, %v) = %v was done", code, g, r, next)
			}
			ends += yes(g.Phase != impl.PhDone && next.Phase == impl.PhDone)
			g = next
		}
	})
	if ends < 1000 {
		t.Errorf("only %d generators ended", ends)
	}
}

// TestP59ClosingTwiceIsClosingOnce: after ReClose that gives EvClosed ReClose
// gives EvClosed again, ReNext EvEnded, and ReThrow EvRaise.
func TestP59ClosingTwiceIsClosingOnce(t *testing.T) {
	closed, others := 0, 0
	eachCode(t, func(code []impl.Order, d dice) {
		g := d.gen(code)
		after, e := impl.ResumeGen(code, g, resume(impl.ReClose, 0))
		if e.Kind != impl.EvClosed {
			others++
			return
		}
		closed++
		for range 2 {
			for _, c := range []struct {
				r    impl.Resume
				kind int
			}{
				{resume(impl.ReClose, 0), impl.EvClosed}, {resume(impl.ReNext, 0), impl.EvEnded},
				{resume(impl.ReSend, d.IntN(100)), impl.EvEnded}, {resume(impl.ReThrow, 0), impl.EvRaise},
			} {
				next, e := impl.ResumeGen(code, after, c.r)
				if next != after || e != event(c.kind, 0) {
					t.Errorf("ResumeGen(%v, %v, %v) = %v, %v after it was closed", code, after, c.r, next, e)
				}
			}
		}
	})
	if closed < 1000 || others < 100 {
		t.Errorf("only %d generators were closed, and %d others", closed, others)
	}
}

// TestP60NextSendsNothing: ReNext is ReSend of 0, but for a new generator.
func TestP60NextSendsNothing(t *testing.T) {
	eachCode(t, func(code []impl.Order, d dice) {
		g := d.gen(code)
		next, e := impl.ResumeGen(code, g, resume(impl.ReNext, 0))
		sent, other := impl.ResumeGen(code, g, resume(impl.ReSend, 0))
		same := next == sent && e == other
		if g.Phase != impl.PhNew && !same {
			t.Errorf("ReNext of %v and %v gives %v, %v, and ReSend %v, %v", code, g, next, e, sent, other)
		}
		if g.Phase == impl.PhNew && (sent != g || other != event(impl.EvBad, 0) || same) {
			t.Errorf("ReSend of %v and %v gives %v, %v", code, g, sent, other)
		}
	})
}
