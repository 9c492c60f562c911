package tests

import (
	"math"
	"runtime"
	"slices"
	"testing"
	"testing/synctest"

	"loop.example/pullstreams/impl"
)

// resumes returns a list of valid resumes: some by chance, some that only ask
// for the next number, and some that are as many as there may be.
func (d dice) resumes() []impl.Resume {
	var list []impl.Resume
	others := d.IntN(3)
	for i := range []int{0, 1, d.upTo(2, 59), d.upTo(2, 59), 60}[d.IntN(5)] {
		r := d.resume()
		if d.IntN(2) >= others || i == 0 && d.IntN(4) > 0 {
			r = impl.Resume{}
		}
		list = append(list, r)
	}
	return list
}

// nexts returns as many resumes that ask for the next number.
func nexts(n int) []impl.Resume {
	return make([]impl.Resume, n)
}

// eachList calls a test for many valid codes and lists of resumes.
func eachList(t *testing.T, test func(code []impl.Order, list []impl.Resume, d dice)) {
	t.Helper()
	d := newDice(61)
	for range 4000 {
		test(d.code(), d.resumes(), d)
		if t.Failed() {
			return
		}
	}
}

// badLists returns lists of resumes that are not valid.
func badLists() [][]impl.Resume {
	out := [][]impl.Resume{nexts(61), nexts(100)}
	for _, r := range badResumes() {
		out = append(out, []impl.Resume{r}, append(nexts(5), r), append([]impl.Resume{r}, nexts(5)...), append(nexts(59), r))
	}
	return out
}

// checkGenerator holds all functions of a code against the model.
func checkGenerator(t *testing.T, code []impl.Order, list []impl.Resume) {
	t.Helper()
	if got, want := impl.RunGen(code, list), wantEvents(code, list); !slices.Equal(got, want) {
		t.Errorf("RunGen(%v, %v) = %v, not %v", code, list, got, want)
	}
	for _, k := range []int{0, 1, 2, len(list), 59, 60} {
		want, _ := wantYields(code, k)
		if got := impl.YieldsOf(code, k); !slices.Equal(got, want) {
			t.Errorf("YieldsOf(%v, %d) = %v, not %v", code, k, got, want)
		}
	}
	if _, want := wantYields(code, 60); impl.EndOf(code) != want {
		t.Errorf("EndOf(%v) = %v, not %v", code, impl.EndOf(code), want)
	}
}

// checkNoGenerator checks the results for a code that is not valid.
func checkNoGenerator(t *testing.T, code []impl.Order) {
	t.Helper()
	if impl.ValidCode(code) || impl.ValidGen(code, impl.Gen{}) || impl.NewGen(code) != (impl.Gen{}) {
		t.Errorf("%v is valid, or NewGen of it is %v", code, impl.NewGen(code))
	}
	for _, k := range []int{0, 1, 60} {
		if events, values := impl.RunGen(code, nexts(k)), impl.YieldsOf(code, k); len(events) > 0 || len(values) > 0 {
			t.Errorf("RunGen(%v) = %v, and YieldsOf %v", code, events, values)
		}
		if events, others := impl.RunFrom(code, adds(1), nexts(k)), impl.RunFrom(adds(1), code, nexts(k)); len(events) > 0 || len(others) > 0 {
			t.Errorf("RunFrom of %v = %v and %v", code, events, others)
		}
	}
	if e := impl.EndOf(code); e != (impl.Event{}) {
		t.Errorf("EndOf(%v) = %v", code, e)
	}
}

// checkFrom holds RunFrom against the model.
func checkFrom(t *testing.T, inner, outer []impl.Order, list []impl.Resume) {
	t.Helper()
	if got, want := impl.RunFrom(inner, outer, list), wantFrom(inner, outer, list); !slices.Equal(got, want) {
		t.Errorf("RunFrom(%v, %v, %v) = %v, not %v", inner, outer, list, got, want)
	}
}

func TestGeneratorsAgainstTheModel(t *testing.T) {
	none, full, again := 0, 0, 0
	eachList(t, func(code []impl.Order, list []impl.Resume, d dice) {
		checkGenerator(t, code, list)
		checkFrom(t, code, d.code(), list)
		none, full = none+yes(len(list) == 0), full+yes(len(list) == 60)
		_, end := wantYields(code, 60)
		again += yes(end == event(impl.EvYield, 0))
	})
	if none < 300 || full < 300 || again < 100 {
		t.Errorf("only %d and %d lists with no resumes and with all, and %d codes that yield without an end", none, full, again)
	}
}

func TestOtherGenerators(t *testing.T) {
	for _, code := range badCodes() {
		checkNoGenerator(t, code)
	}
	for _, list := range badLists() {
		for _, code := range [][]impl.Order{nil, adds(1), {order(impl.GyYield, 1, 0), order(impl.GyBack, 99, 0)}} {
			if got := impl.RunGen(code, list); len(got) > 0 {
				t.Errorf("RunGen(%v, %v) = %v", code, list, got)
			}
			if got := impl.RunFrom(code, adds(1), list); len(got) > 0 {
				t.Errorf("RunFrom(%v, .., %v) = %v", code, list, got)
			}
			if got := impl.RunFrom(adds(1), code, list); len(got) > 0 {
				t.Errorf("RunFrom(.., %v, %v) = %v", code, list, got)
			}
		}
	}
	for _, k := range []int{-1, 61, 62, 100, math.MinInt, math.MaxInt} {
		if got := impl.YieldsOf([]impl.Order{order(impl.GyYield, 1, 0), order(impl.GyBack, 99, 0)}, k); len(got) > 0 {
			t.Errorf("YieldsOf of %d = %v", k, got)
		}
	}
}

func TestRunGen(t *testing.T) {
	next, send := resume(impl.ReNext, 0), resume(impl.ReSend, 4)
	throw, shut := resume(impl.ReThrow, 0), resume(impl.ReClose, 0)
	echo := []impl.Order{order(impl.GyYield, 0, 0), order(impl.GySent, 0, 0), order(impl.GyBack, 99, 0)}
	stubborn := []impl.Order{order(impl.GyTry, 0, 0), order(impl.GyYield, 7, 0)}
	for _, c := range []struct {
		code []impl.Order
		list []impl.Resume
		want []impl.Event
	}{
		{echo, nil, nil},
		{nil, nil, nil},
		{nil, []impl.Resume{next, next, send, throw, shut}, []impl.Event{{Kind: impl.EvReturn}, {Kind: impl.EvEnded}, {Kind: impl.EvEnded}, {Kind: impl.EvRaise}, {Kind: impl.EvClosed}}},
		{nil, []impl.Resume{send, send, next}, []impl.Event{{Kind: impl.EvBad}, {Kind: impl.EvBad}, {Kind: impl.EvReturn}}},
		{nil, []impl.Resume{shut, shut, next, throw}, []impl.Event{{Kind: impl.EvClosed}, {Kind: impl.EvClosed}, {Kind: impl.EvEnded}, {Kind: impl.EvRaise}}},
		{nil, []impl.Resume{throw, throw, next, shut}, []impl.Event{{Kind: impl.EvRaise}, {Kind: impl.EvRaise}, {Kind: impl.EvEnded}, {Kind: impl.EvClosed}}},
		{echo, []impl.Resume{send, next, send, next, resume(impl.ReSend, 95), resume(impl.ReSend, 96)}, []impl.Event{
			{Kind: impl.EvBad}, {Kind: impl.EvYield}, {Kind: impl.EvYield, Value: 4}, {Kind: impl.EvYield, Value: 4}, {Kind: impl.EvReturn, Value: 99}, {Kind: impl.EvEnded},
		}},
		// It sets its handler again each time that it is closed, and yields.
		{stubborn, []impl.Resume{next, shut, shut, throw, shut, next, shut}, []impl.Event{
			{Kind: impl.EvYield, Value: 7}, {Kind: impl.EvBad}, {Kind: impl.EvBad}, {Kind: impl.EvYield, Value: 7}, {Kind: impl.EvBad}, {Kind: impl.EvReturn}, {Kind: impl.EvClosed},
		}},
		{[]impl.Order{order(impl.GyBack, 1, 0)}, []impl.Resume{next, next, shut, throw}, []impl.Event{{Kind: impl.EvStuck}, {Kind: impl.EvEnded}, {Kind: impl.EvClosed}, {Kind: impl.EvRaise}}},
		// It is stuck in its handler when it is closed.
		{[]impl.Order{order(impl.GyTry, 0, 2), order(impl.GyYield, 0, 0), order(impl.GyBack, 1, 2)}, []impl.Resume{next, shut, shut}, []impl.Event{{Kind: impl.EvYield}, {Kind: impl.EvStuck}, {Kind: impl.EvClosed}}},
	} {
		if got := impl.RunGen(c.code, c.list); !slices.Equal(got, c.want) {
			t.Errorf("RunGen(%v, %v) = %v, not %v", c.code, c.list, got, c.want)
		}
		checkGenerator(t, c.code, c.list)
	}
}

// TestMostResumes: MaxTurns resumes are answered, and one more are not.
func TestMostResumes(t *testing.T) {
	code := slices.Repeat([]impl.Order{order(impl.GyYield, 1, 0)}, 9)
	code = append(code, order(impl.GyBack, 99, 0))
	if got := impl.RunGen(code, nexts(60)); len(got) != 60 || got[59] != event(impl.EvYield, 1) {
		t.Errorf("RunGen(%v) of 60 resumes = %v", code, got)
	}
	if got := impl.YieldsOf(code, 60); len(got) != 60 {
		t.Errorf("YieldsOf(%v, 60) = %v", code, got)
	}
	// The last resume within MaxTurns may be the one that ends a generator, and
	// a later one is not made.
	for _, c := range []struct {
		n    int
		want impl.Event
	}{
		{58, event(impl.EvReturn, 58)}, {59, event(impl.EvReturn, 59)}, {60, event(impl.EvYield, 0)}, {61, event(impl.EvYield, 0)},
	} {
		counts := []impl.Order{order(impl.GyAdd, 1, 0), order(impl.GyYield, 0, 0), order(impl.GyBack, c.n, 0)}
		if got := impl.EndOf(counts); got != c.want {
			t.Errorf("EndOf(%v) = %v", counts, got)
		}
		checkGenerator(t, counts, nexts(60))
	}
}

// TestP61EventsFollowEachOther: RunGen of the first resumes is the beginning of
// that of all, and of one more resume it is ResumeGen.
func TestP61EventsFollowEachOther(t *testing.T) {
	eachList(t, func(code []impl.Order, list []impl.Resume, _ dice) {
		g := impl.NewGen(code)
		whole := impl.RunGen(code, list)
		if len(whole) != len(list) {
			t.Fatalf("RunGen(%v, %v) = %v", code, list, whole)
		}
		for k, r := range list {
			if got := impl.RunGen(code, list[:k]); !slices.Equal(got, whole[:k]) {
				t.Fatalf("RunGen(%v, %v) = %v is not the beginning of %v", code, list[:k], got, whole)
			}
			next, e := impl.ResumeGen(code, g, r)
			if e != whole[k] {
				t.Fatalf("ResumeGen(%v, %v, %v) gives %v, and RunGen %v", code, g, r, e, whole)
			}
			g = next
		}
	})
}

// countEvents returns how many events are of some kinds.
func countEvents(events []impl.Event, kinds ...int) int {
	n := 0
	for _, e := range events {
		n += yes(slices.Contains(kinds, e.Kind))
	}
	return n
}

// TestP62GeneratorsEndOnce: in RunGen EvReturn and EvStuck come at most once
// together, and behind them comes no EvYield.
func TestP62GeneratorsEndOnce(t *testing.T) {
	ended := 0
	eachList(t, func(code []impl.Order, list []impl.Resume, _ dice) {
		events := impl.RunGen(code, list)
		at := slices.IndexFunc(events, func(e impl.Event) bool { return e.Kind == impl.EvReturn || e.Kind == impl.EvStuck })
		if at < 0 {
			return
		}
		if countEvents(events, impl.EvReturn, impl.EvStuck) != 1 || countEvents(events[at+1:], impl.EvYield, impl.EvBad) > 0 {
			t.Errorf("RunGen(%v, %v) = %v ends twice, or goes on", code, list, events)
		}
		ended += yes(at+1 < len(events))
	})
	if ended < 500 {
		t.Errorf("only %d generators ended and were resumed", ended)
	}
}

// TestP63YieldsAreEvents: YieldsOf are the Values that RunGen of as many ReNext
// yields, and fewer are a beginning.
func TestP63YieldsAreEvents(t *testing.T) {
	eachCode(t, func(code []impl.Order, d dice) {
		k := d.upTo(0, 60)
		var values []int
		for _, e := range impl.RunGen(code, nexts(k)) {
			if e.Kind == impl.EvYield {
				values = append(values, e.Value)
			}
		}
		got := impl.YieldsOf(code, k)
		if !slices.Equal(got, values) || len(got) > k {
			t.Errorf("YieldsOf(%v, %d) = %v, not %v", code, k, got, values)
		}
		for fewer := range k {
			if some := impl.YieldsOf(code, fewer); !slices.Equal(some, got[:min(fewer, len(got))]) {
				t.Errorf("YieldsOf(%v, %d) = %v is not the beginning of %v", code, fewer, some, got)
			}
		}
	})
}

// TestP64EndsComeAfterAllYields: EndOf is the event of RunGen behind all of
// YieldsOf.
func TestP64EndsComeAfterAllYields(t *testing.T) {
	kinds := make([]int, 7)
	eachCode(t, func(code []impl.Order, _ dice) {
		events, yields := impl.RunGen(code, nexts(60)), impl.YieldsOf(code, 60)
		want := impl.Event{}
		if len(yields) < 60 {
			want = events[len(yields)]
		}
		if got := impl.EndOf(code); got != want {
			t.Errorf("EndOf(%v) = %v, not %v", code, got, want)
		}
		kinds[want.Kind]++
	})
	for _, kind := range []int{impl.EvYield, impl.EvReturn, impl.EvRaise, impl.EvStuck} {
		if kinds[kind] < 100 {
			t.Errorf("only %d generators end with the event %d", kinds[kind], kind)
		}
	}
}

func TestRunFrom(t *testing.T) {
	next, send := resume(impl.ReNext, 0), resume(impl.ReSend, 4)
	throw, shut := resume(impl.ReThrow, 0), resume(impl.ReClose, 0)
	yields := []impl.Order{order(impl.GyYield, 5, 0), order(impl.GySent, 0, 0)}
	guards := []impl.Order{order(impl.GyTry, 0, 2), order(impl.GyYield, 9, 0), order(impl.GyAdd, 3, 0)}
	for _, c := range []struct {
		inner, outer []impl.Order
		list         []impl.Resume
		want         []impl.Event
	}{
		{yields, yields, nil, nil},
		// What is sent to the inner one is not sent to the outer one as well.
		{yields, yields, []impl.Resume{next, send, send, next}, []impl.Event{{Kind: impl.EvYield, Value: 5}, {Kind: impl.EvYield, Value: 9}, {Kind: impl.EvReturn, Value: 8}, {Kind: impl.EvEnded}}},
		{yields, []impl.Order{order(impl.GySent, 0, 0)}, []impl.Resume{next, send, send}, []impl.Event{{Kind: impl.EvYield, Value: 5}, {Kind: impl.EvReturn, Value: 4}, {Kind: impl.EvEnded}}},
		// A handler that returns lets the outer one begin, too.
		{guards, yields, []impl.Resume{next, throw, next}, []impl.Event{{Kind: impl.EvYield, Value: 9}, {Kind: impl.EvYield, Value: 8}, {Kind: impl.EvReturn, Value: 3}}},
		// The inner one is closed or raises, and the outer one never begins.
		{guards, yields, []impl.Resume{next, shut, next, throw}, []impl.Event{{Kind: impl.EvYield, Value: 9}, {Kind: impl.EvClosed}, {Kind: impl.EvEnded}, {Kind: impl.EvRaise}}},
		{yields, yields, []impl.Resume{next, throw, next}, []impl.Event{{Kind: impl.EvYield, Value: 5}, {Kind: impl.EvRaise}, {Kind: impl.EvEnded}}},
		{[]impl.Order{order(impl.GyBack, 1, 0)}, yields, []impl.Resume{next, next}, []impl.Event{{Kind: impl.EvStuck}, {Kind: impl.EvEnded}}},
		{yields, yields, []impl.Resume{send, next}, []impl.Event{{Kind: impl.EvBad}, {Kind: impl.EvYield, Value: 5}}},
		// The outer one has no handler from the inner one, and its own orders.
		{[]impl.Order{order(impl.GyTry, 0, 0), order(impl.GyAdd, 1, 0)}, []impl.Order{order(impl.GyRaise, 0, 0)}, []impl.Resume{next, next}, []impl.Event{{Kind: impl.EvRaise}, {Kind: impl.EvEnded}}},
		{looped(29, order(impl.GyAdd, 0, 0)), looped(59, order(impl.GyYield, 0, 0)), []impl.Resume{next}, []impl.Event{{Kind: impl.EvStuck}}},
		{looped(29, order(impl.GyAdd, 0, 0)), looped(58, order(impl.GyYield, 0, 0)), []impl.Resume{next}, []impl.Event{{Kind: impl.EvYield, Value: 58}}},
		// The outer one returns just once, too.
		{nil, nil, []impl.Resume{next, next, shut, throw}, []impl.Event{{Kind: impl.EvReturn}, {Kind: impl.EvEnded}, {Kind: impl.EvClosed}, {Kind: impl.EvRaise}}},
	} {
		if got := impl.RunFrom(c.inner, c.outer, c.list); !slices.Equal(got, c.want) {
			t.Errorf("RunFrom(%v, %v, %v) = %v, not %v", c.inner, c.outer, c.list, got, c.want)
		}
		checkFrom(t, c.inner, c.outer, c.list)
	}
}

// TestP65OneGoesOnWhereTheOtherEnds: RunFrom is RunGen of the first code up to
// its EvReturn, and if that never comes it is RunGen.
func TestP65OneGoesOnWhereTheOtherEnds(t *testing.T) {
	goOn, never := 0, 0
	eachList(t, func(code []impl.Order, list []impl.Resume, d dice) {
		outer := d.code()
		first, got := impl.RunGen(code, list), impl.RunFrom(code, outer, list)
		at := slices.IndexFunc(first, func(e impl.Event) bool { return e.Kind == impl.EvReturn })
		if at < 0 {
			if !slices.Equal(got, first) {
				t.Errorf("RunFrom(%v, %v, %v) = %v, not %v", code, outer, list, got, first)
			}
			never++
			return
		}
		g := impl.NewGen(outer)
		g.Sum = first[at].Value
		want := first[:at:at]
		for i, r := range list[at:] {
			if i == 0 {
				r = impl.Resume{}
			}
			next, e := impl.ResumeGen(outer, g, r)
			g, want = next, append(want, e)
		}
		if !slices.Equal(got, want) {
			t.Errorf("RunFrom(%v, %v, %v) = %v, not %v", code, outer, list, got, want)
		}
		goOn += yes(countEvents(want[at:], impl.EvYield) > 1)
	})
	if goOn < 100 || never < 500 {
		t.Errorf("only %d went on, and %d never returned", goOn, never)
	}
}

// TestP66EmptyCodesArePassed: RunFrom with a first code without orders is RunGen
// of the second one, and with a second one without orders it is RunGen of the
// first one.
func TestP66EmptyCodesArePassed(t *testing.T) {
	eachList(t, func(code []impl.Order, list []impl.Resume, _ dice) {
		want := impl.RunGen(code, list)
		for _, none := range [][]impl.Order{nil, {}} {
			if got := impl.RunFrom(none, code, list); !slices.Equal(got, want) {
				t.Errorf("RunFrom(nothing, %v, %v) = %v, not %v", code, list, got, want)
			}
			if got := impl.RunFrom(code, none, list); !slices.Equal(got, want) {
				t.Errorf("RunFrom(%v, nothing, %v) = %v, not %v", code, list, got, want)
			}
		}
	})
}

// runAll calls all functions that let a generator run.
func runAll(code, outer []impl.Order, g impl.Gen, list []impl.Resume) {
	for _, r := range allResumes() {
		impl.ResumeGen(code, g, r)
	}
	impl.RunGen(code, list)
	impl.YieldsOf(code, len(list))
	impl.EndOf(code)
	impl.RunFrom(code, outer, list)
}

// TestNoGoroutineIsLeftBehind: synctest ends the test if a goroutine that was
// started in it waits for ever. With one processor, a goroutine that is not
// joined would be there when its call has returned.
func TestNoGoroutineIsLeftBehind(t *testing.T) {
	synctest.Test(t, func(t *testing.T) {
		d := newDice(66)
		for range 300 {
			code := d.code()
			runAll(code, d.code(), d.gen(code), d.resumes())
		}
	})
	defer runtime.GOMAXPROCS(runtime.GOMAXPROCS(1))
	d := newDice(67)
	left := 0
	for range 300 {
		code, outer, list := d.code(), d.code(), d.resumes()
		g := d.gen(code)
		for _, run := range []func(){
			func() { impl.ResumeGen(code, g, impl.Resume{}) },
			func() { impl.RunGen(code, list) },
			func() { impl.YieldsOf(code, 2) },
			func() { impl.EndOf(code) },
			func() { impl.RunFrom(code, outer, list) },
		} {
			before := runtime.NumGoroutine()
			run()
			left += yes(runtime.NumGoroutine() > before)
		}
	}
	// The scheduler may stop a goroutine that was joined just before its end.
	if left > 20 {
		t.Errorf("goroutines were left behind %d times", left)
	}
}
