package tests

import (
	"math"
	"slices"
	"testing"

	"loop.example/pullstreams/impl"
)

// gen returns a generator.
func gen(at, sum, sent, handler, phase int) impl.Gen {
	return impl.Gen{At: at, Sum: sum, Sent: sent, Handler: handler, Phase: phase}
}

// adds returns a code of as many orders that add 1.
func adds(orders int) []impl.Order {
	return slices.Repeat([]impl.Order{order(impl.GyAdd, 1, 0)}, orders)
}

// kindsOfOrders are all kinds of orders, those that go on more often.
var kindsOfOrders = []int{
	impl.GyYield, impl.GyYield, impl.GyYield, impl.GyAdd, impl.GyAdd, impl.GySent, impl.GySent, impl.GyBack,
	impl.GyBack, impl.GyTry, impl.GyTry, impl.GyTry, impl.GyEnd, impl.GyRaise, impl.GyReturn,
}

// code returns a valid code, some of which have loops without an end, or no
// orders.
func (d dice) code() []impl.Order {
	var code []impl.Order
	orders := []int{0, 1, d.upTo(2, 9), d.upTo(2, 9), d.upTo(2, 9), 10}[d.IntN(6)]
	for i := range orders {
		o := order(kindsOfOrders[d.IntN(len(kindsOfOrders))], 0, 0)
		switch o.Kind {
		case impl.GyYield, impl.GyAdd:
			o.N = []int{0, 1, d.upTo(2, 98), 99}[d.IntN(4)]
		case impl.GyBack:
			o.N = []int{0, d.upTo(1, 50), 99}[d.IntN(3)]
			o.M = []int{d.upTo(0, i), d.upTo(0, i), d.upTo(0, orders-1)}[d.IntN(3)]
		case impl.GyTry:
			o.M = d.IntN(orders)
		}
		code = append(code, o)
	}
	return code
}

// gen returns a generator of a valid code, in any phase and at any order.
func (d dice) gen(code []impl.Order) impl.Gen {
	number := func() int { return []int{0, d.upTo(1, 98), 99}[d.IntN(3)] }
	return gen(d.upTo(0, len(code)), number(), number(), d.upTo(-1, len(code)-1), d.IntN(3))
}

// resume returns a valid resume.
func (d dice) resume() impl.Resume {
	kind := []int{impl.ReNext, impl.ReNext, impl.ReNext, impl.ReSend, impl.ReSend, impl.ReThrow, impl.ReClose}[d.IntN(7)]
	if kind == impl.ReSend {
		return resume(kind, []int{0, d.upTo(1, 98), 99}[d.IntN(3)])
	}
	return resume(kind, 0)
}

// allResumes returns a resume of each kind.
func allResumes() []impl.Resume {
	return []impl.Resume{resume(impl.ReNext, 0), resume(impl.ReSend, 0), resume(impl.ReSend, 7), resume(impl.ReThrow, 0), resume(impl.ReClose, 0)}
}

// eachCode calls a test for many valid codes.
func eachCode(t *testing.T, test func(code []impl.Order, d dice)) {
	t.Helper()
	d := newDice(54)
	for range 4000 {
		test(d.code(), d)
		if t.Failed() {
			return
		}
	}
}

// badCodes returns codes that are not valid.
func badCodes() [][]impl.Order {
	out := [][]impl.Order{
		adds(11), make([]impl.Order, 11), make([]impl.Order, 60),
		{order(impl.GyBack, 0, 1)}, {order(impl.GyTry, 0, 1)},
		append(adds(9), order(impl.GyTry, 0, 10)), append(adds(9), order(impl.GyBack, 5, 10)),
		{order(impl.GyBack, 0, 2), order(impl.GyAdd, 0, 0)}, {order(impl.GyTry, 0, 2), order(impl.GyAdd, 0, 0)},
	}
	for _, kind := range []int{-1, 8, 9, math.MinInt, math.MaxInt} {
		out = append(out, []impl.Order{order(kind, 0, 0)}, append(adds(3), order(kind, 0, 0)))
	}
	for _, n := range []int{-1, 100, math.MinInt, math.MaxInt} {
		for kind := range 8 {
			out = append(out, []impl.Order{order(kind, n, 0)}, append(adds(3), order(kind, n, 0)))
			out = append(out, []impl.Order{order(kind, 0, n)}, append(adds(3), order(kind, 0, n)))
		}
	}
	for _, kind := range []int{impl.GySent, impl.GyTry, impl.GyEnd, impl.GyRaise, impl.GyReturn} {
		out = append(out, append(adds(3), order(kind, 1, 0)), append(adds(3), order(kind, 99, 0)))
	}
	for _, kind := range []int{impl.GyYield, impl.GyAdd, impl.GySent, impl.GyEnd, impl.GyRaise, impl.GyReturn} {
		out = append(out, append(adds(3), order(kind, 0, 1)), append(adds(3), order(kind, 0, 3)))
	}
	return out
}

// badResumes returns resumes that are not valid.
func badResumes() []impl.Resume {
	out := []impl.Resume{resume(impl.ReSend, -1), resume(impl.ReSend, 100), resume(impl.ReSend, math.MinInt), resume(impl.ReSend, math.MaxInt)}
	for _, kind := range []int{impl.ReNext, impl.ReThrow, impl.ReClose} {
		for _, value := range []int{-1, 1, 99, 100, math.MinInt, math.MaxInt} {
			out = append(out, resume(kind, value))
		}
	}
	for _, kind := range []int{-1, 4, 5, math.MinInt, math.MaxInt} {
		out = append(out, resume(kind, 0), resume(kind, 1))
	}
	return out
}

// badGens returns generators that are none of any code.
func badGens() []impl.Gen {
	var out []impl.Gen
	for _, n := range []int{-1, 11, 100, math.MinInt, math.MaxInt} {
		out = append(out, gen(n, 0, 0, -1, impl.PhWait))
		if n != 11 {
			out = append(out, gen(0, n, 0, -1, impl.PhWait), gen(0, 0, n, -1, impl.PhWait))
		}
		if n != -1 {
			out = append(out, gen(0, 0, 0, n, impl.PhWait))
		}
		out = append(out, gen(0, 0, 0, -1, n))
	}
	return append(out, gen(0, 0, 0, -2, impl.PhWait), gen(0, 0, 0, 10, impl.PhNew), gen(0, 0, 0, -1, 3))
}

func TestValidCode(t *testing.T) {
	for _, code := range [][]impl.Order{
		nil, {}, adds(1), adds(10), make([]impl.Order, 10),
		{order(impl.GyYield, 99, 0)}, {order(impl.GyAdd, 99, 0)}, {order(impl.GySent, 0, 0)},
		{order(impl.GyBack, 99, 0)}, {order(impl.GyBack, 0, 0)}, {order(impl.GyTry, 0, 0)},
		{order(impl.GyEnd, 0, 0)}, {order(impl.GyRaise, 0, 0)}, {order(impl.GyReturn, 0, 0)},
		append(adds(9), order(impl.GyBack, 99, 9)), append(adds(9), order(impl.GyTry, 0, 9)),
		append([]impl.Order{order(impl.GyBack, 1, 9), order(impl.GyTry, 0, 9)}, adds(8)...),
	} {
		if !impl.ValidCode(code) {
			t.Errorf("ValidCode(%v) = false", code)
		}
	}
	for _, code := range badCodes() {
		if impl.ValidCode(code) {
			t.Errorf("ValidCode(%v) = true", code)
		}
	}
}

func TestValidGen(t *testing.T) {
	for _, orders := range []int{0, 1, 2, 10} {
		code := adds(orders)
		for at := -1; at <= 12; at++ {
			for handler := -3; handler <= 12; handler++ {
				for phase := -1; phase <= 4; phase++ {
					want := at >= 0 && at <= orders && handler >= -1 && handler < orders && phase >= 0 && phase <= 2
					if g := gen(at, 99, 0, handler, phase); impl.ValidGen(code, g) != want {
						t.Errorf("ValidGen(%v, %v) is not %v", code, g, want)
					}
				}
			}
		}
		for sum := -1; sum <= 101; sum++ {
			want := sum >= 0 && sum <= 99
			if impl.ValidGen(code, gen(0, sum, 5, -1, impl.PhWait)) != want || impl.ValidGen(code, gen(0, 5, sum, -1, impl.PhNew)) != want {
				t.Errorf("ValidGen(%v) with Sum or Sent %d is not %v", code, sum, want)
			}
		}
	}
	for _, g := range badGens() {
		for orders := range 11 {
			if impl.ValidGen(adds(orders), g) {
				t.Errorf("ValidGen(%v, %v) = true", adds(orders), g)
			}
		}
	}
	for _, code := range badCodes() {
		for _, g := range []impl.Gen{{}, {Handler: -1}, gen(1, 2, 3, -1, impl.PhDone)} {
			if impl.ValidGen(code, g) {
				t.Errorf("ValidGen(%v, %v) = true", code, g)
			}
		}
	}
}

// TestP54CodesCanBeLonger: a valid code with room is valid with one more
// GyReturn at its end.
func TestP54CodesCanBeLonger(t *testing.T) {
	full := 0
	eachCode(t, func(code []impl.Order, _ dice) {
		longer := append(slices.Clone(code), order(impl.GyReturn, 0, 0))
		room := len(code) < 10
		if !impl.ValidCode(code) || impl.ValidCode(longer) != room {
			t.Errorf("ValidCode(%v) = %v", longer, !room)
		}
		if room && !slices.Equal(impl.RunGen(code, make([]impl.Resume, 60)), impl.RunGen(longer, make([]impl.Resume, 60))) {
			t.Errorf("RunGen(%v) is other than with one more GyReturn", code)
		}
		full += yes(!room)
	})
	if full < 300 {
		t.Errorf("only %d codes are full", full)
	}
}

// TestP55GeneratorsStayValid: a valid generator is valid after any resume.
func TestP55GeneratorsStayValid(t *testing.T) {
	eachCode(t, func(code []impl.Order, d dice) {
		g := d.gen(code)
		for range 20 {
			r := d.resume()
			next, e := impl.ResumeGen(code, g, r)
			if !impl.ValidGen(code, g) || !impl.ValidGen(code, next) || !wantValidGen(code, next) {
				t.Fatalf("ResumeGen(%v, %v, %v) = %v, %v is not valid", code, g, r, next, e)
			}
			g = next
			if g.Phase == impl.PhDone {
				g = d.gen(code)
			}
		}
	})
}

// TestP56NewGeneratorsWaitForNothing: NewGen is valid, PhNew, and closed it is
// done.
func TestP56NewGeneratorsWaitForNothing(t *testing.T) {
	eachCode(t, func(code []impl.Order, _ dice) {
		g := impl.NewGen(code)
		if g != gen(0, 0, 0, -1, impl.PhNew) || !impl.ValidGen(code, g) {
			t.Errorf("NewGen(%v) = %v", code, g)
		}
		closed, e := impl.ResumeGen(code, g, resume(impl.ReClose, 0))
		if closed != gen(0, 0, 0, -1, impl.PhDone) || e != event(impl.EvClosed, 0) {
			t.Errorf("NewGen(%v) closed = %v, %v", code, closed, e)
		}
	})
	for _, code := range badCodes() {
		if g := impl.NewGen(code); g != (impl.Gen{}) {
			t.Errorf("NewGen(%v) = %v", code, g)
		}
	}
}

// TestP57ResumesAreOfFourKinds: a valid resume is valid with the Value 0, and
// no other Kind is.
func TestP57ResumesAreOfFourKinds(t *testing.T) {
	for kind := -3; kind <= 12; kind++ {
		for value := -3; value <= 200; value++ {
			r := resume(kind, value)
			want := kind >= 0 && kind <= 3 && (value == 0 || kind == impl.ReSend && value > 0 && value <= 99)
			if impl.ValidResume(r) != want || want && !impl.ValidResume(resume(kind, 0)) {
				t.Errorf("ValidResume(%v) is not %v", r, want)
			}
		}
	}
	for _, r := range badResumes() {
		if impl.ValidResume(r) {
			t.Errorf("ValidResume(%v) = true", r)
		}
	}
}
