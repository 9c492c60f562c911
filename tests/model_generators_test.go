package tests

import "loop.example/pullstreams/impl"

// This file has the meaning of generators once more, as functions from one
// state to the next one, with nothing that waits.

// order returns an order.
func order(kind, n, m int) impl.Order {
	return impl.Order{Kind: kind, N: n, M: m}
}

// event returns an event.
func event(kind, value int) impl.Event {
	return impl.Event{Kind: kind, Value: value}
}

// resume returns a resume.
func resume(kind, value int) impl.Resume {
	return impl.Resume{Kind: kind, Value: value}
}

// wantValidOrder reports whether an order is one of a code with so many orders.
func wantValidOrder(o impl.Order, orders int) bool {
	number := o.N >= 0 && o.N <= 99
	place := o.M >= 0 && o.M < orders
	switch o.Kind {
	case impl.GyYield, impl.GyAdd:
		return number && o.M == 0
	case impl.GyBack:
		return number && place
	case impl.GyTry:
		return o.N == 0 && place
	case impl.GySent, impl.GyEnd, impl.GyRaise, impl.GyReturn:
		return o.N == 0 && o.M == 0
	}
	return false
}

// wantValidCode reports whether a code is valid.
func wantValidCode(code []impl.Order) bool {
	for _, o := range code {
		if !wantValidOrder(o, len(code)) {
			return false
		}
	}
	return len(code) <= 10
}

// wantValidGen reports whether a generator is one of a code.
func wantValidGen(code []impl.Order, g impl.Gen) bool {
	if !wantValidCode(code) || g.At < 0 || g.At > len(code) || g.Handler < -1 || g.Handler >= len(code) {
		return false
	}
	if g.Sum < 0 || g.Sum > 99 || g.Sent < 0 || g.Sent > 99 {
		return false
	}
	return g.Phase == impl.PhNew || g.Phase == impl.PhWait || g.Phase == impl.PhDone
}

// wantValidResume reports whether a resume is valid.
func wantValidResume(r impl.Resume) bool {
	switch r.Kind {
	case impl.ReSend:
		return r.Value >= 0 && r.Value <= 99
	case impl.ReNext, impl.ReThrow, impl.ReClose:
		return r.Value == 0
	}
	return false
}

// wantValidList reports whether resumes are valid, and not too many.
func wantValidList(list []impl.Resume) bool {
	for _, r := range list {
		if !wantValidResume(r) {
			return false
		}
	}
	return len(list) <= 60
}

// wantDone returns a generator that is done, with an event.
func wantDone(g impl.Gen, kind, value int) (impl.Gen, impl.Event) {
	g.Phase = impl.PhDone
	return g, event(kind, value)
}

// wantOrders returns a generator after its next orders, of which it does no
// more than are left, and the event.
func wantOrders(code []impl.Order, g impl.Gen, left int) (impl.Gen, impl.Event) {
	if left == 0 {
		return wantDone(g, impl.EvStuck, 0)
	}
	if g.At == len(code) {
		return wantDone(g, impl.EvReturn, g.Sum)
	}
	o := code[g.At]
	g.At++
	switch {
	case o.Kind == impl.GyYield:
		g.Phase = impl.PhWait
		return g, event(impl.EvYield, (g.Sum+o.N)%100)
	case o.Kind == impl.GyReturn:
		return wantDone(g, impl.EvReturn, g.Sum)
	case o.Kind == impl.GyRaise:
		return wantRaised(code, g, left-1)
	case o.Kind == impl.GyAdd:
		g.Sum = (g.Sum + o.N) % 100
	case o.Kind == impl.GySent:
		g.Sum = (g.Sum + g.Sent) % 100
	case o.Kind == impl.GyTry:
		g.Handler = o.M
	case o.Kind == impl.GyEnd:
		g.Handler = -1
	case o.Kind == impl.GyBack && g.Sum < o.N:
		g.At = o.M
	}
	return wantOrders(code, g, left-1)
}

// wantRaised returns a generator in which something was raised, when it has
// done the orders that are left, and the event.
func wantRaised(code []impl.Order, g impl.Gen, left int) (impl.Gen, impl.Event) {
	if g.Handler == -1 {
		return wantDone(g, impl.EvRaise, 0)
	}
	g.At = g.Handler
	g.Handler = -1
	return wantOrders(code, g, left)
}

// wantClosed returns a generator that waits after it is closed, and the event.
func wantClosed(code []impl.Order, g impl.Gen) (impl.Gen, impl.Event) {
	after, e := wantRaised(code, g, 60)
	kinds := map[int]int{impl.EvYield: impl.EvBad, impl.EvReturn: impl.EvClosed, impl.EvRaise: impl.EvClosed, impl.EvStuck: impl.EvStuck}
	return after, event(kinds[e.Kind], 0)
}

// wantResumed returns a generator after a resume, and the event.
func wantResumed(code []impl.Order, g impl.Gen, r impl.Resume) (impl.Gen, impl.Event) {
	if g.Phase == impl.PhDone {
		return g, event([]int{impl.EvEnded, impl.EvEnded, impl.EvRaise, impl.EvClosed}[r.Kind], 0)
	}
	isNew := g.Phase == impl.PhNew
	switch {
	case isNew && r.Kind == impl.ReSend:
		return g, event(impl.EvBad, 0)
	case isNew && r.Kind == impl.ReThrow:
		return wantDone(g, impl.EvRaise, 0)
	case isNew && r.Kind == impl.ReClose:
		return wantDone(g, impl.EvClosed, 0)
	case r.Kind == impl.ReThrow:
		return wantRaised(code, g, 60)
	case r.Kind == impl.ReClose:
		return wantClosed(code, g)
	}
	g.Sent = r.Value
	return wantOrders(code, g, 60)
}

// wantEvents returns the events of a new generator.
func wantEvents(code []impl.Order, list []impl.Resume) []impl.Event {
	return wantFrom(code, nil, list)
}

// wantFrom returns the events of two new generators, one behind the other.
func wantFrom(inner, outer []impl.Order, list []impl.Resume) []impl.Event {
	var out []impl.Event
	code, g := inner, impl.Gen{Handler: -1}
	returned := false
	for _, r := range list {
		next, e := wantResumed(code, g, r)
		if e.Kind == impl.EvReturn && !returned {
			returned = true
			code = outer
			next, e = wantResumed(code, impl.Gen{Sum: e.Value, Handler: -1}, impl.Resume{})
		}
		g = next
		out = append(out, e)
	}
	return out
}

// wantYields returns what a new generator yields first, at most k numbers, and
// the event behind them, or the zero value if they are k.
func wantYields(code []impl.Order, k int) ([]int, impl.Event) {
	var out []int
	for _, e := range wantEvents(code, make([]impl.Resume, k)) {
		if e.Kind != impl.EvYield {
			return out, e
		}
		out = append(out, e.Value)
	}
	return out, impl.Event{}
}
