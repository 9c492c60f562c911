package tests

import (
	"math"
	"slices"
	"testing"

	"loop.example/pullstreams/impl"
)

// sameTee reports whether two tees are the same.
func sameTee(a, b impl.Tee) bool {
	return a.Fed == b.Fed && slices.Equal(a.Items, b.Items) && slices.Equal(a.Places, b.Places) && slices.Equal(a.Open, b.Open)
}

// noTee reports whether a tee is the zero value.
func noTee(t impl.Tee) bool {
	return sameTee(t, impl.Tee{})
}

// tee returns a tee whose readers are all open.
func tee(items []int, fed int, places ...int) impl.Tee {
	return impl.Tee{Items: items, Fed: fed, Places: places, Open: slices.Repeat([]bool{true}, len(places))}
}

// shut returns a tee in which some readers are closed.
func shut(t impl.Tee, readers ...int) impl.Tee {
	t.Open = slices.Clone(t.Open)
	for _, c := range readers {
		t.Open[c] = false
	}
	return t
}

// upToItems returns as many items, which differ.
func upToItems(n int) []int {
	var out []int
	for i := range n {
		out = append(out, 99-i*8)
	}
	return out
}

// tee returns a valid tee. All its readers may be closed, and its places may be
// behind what is fed.
func (d dice) tee() impl.Tee {
	t := impl.Tee{}
	for range []int{0, 1, d.upTo(2, 11), 12}[d.IntN(4)] {
		t.Items = append(t.Items, d.upTo(0, 99))
	}
	t.Fed = []int{0, d.upTo(0, len(t.Items)), len(t.Items)}[d.IntN(3)]
	for range d.upTo(1, 4) {
		t.Places = append(t.Places, []int{0, d.upTo(0, t.Fed), t.Fed}[d.IntN(3)])
		t.Open = append(t.Open, d.IntN(3) > 0)
	}
	return t
}

// turns returns turns of readers: some by chance, some with one reader that is
// ahead of the others, or has all turns, and some that are as many as there may
// be.
func (d dice) turns(readers int) []int {
	var out []int
	often, others := d.IntN(readers), d.IntN(3)
	for range []int{0, 1, d.upTo(2, 59), d.upTo(2, 59), 60}[d.IntN(5)] {
		c := d.IntN(readers)
		if d.IntN(2) >= others {
			c = often
		}
		out = append(out, c)
	}
	return out
}

// eachTee calls a test for many valid tees.
func eachTee(t *testing.T, test func(e impl.Tee, d dice)) {
	t.Helper()
	d := newDice(44)
	for range 4000 {
		test(d.tee(), d)
		if t.Failed() {
			return
		}
	}
}

// eachRun calls a test for many valid arguments of RunTee.
func eachRun(t *testing.T, test func(items []int, readers int, turns []int, d dice)) {
	t.Helper()
	d := newDice(49)
	for range 4000 {
		e := d.tee()
		readers := len(e.Places)
		test(e.Items, readers, d.turns(readers), d)
		if t.Failed() {
			return
		}
	}
}

// numbersOfReaders returns numbers that no tee has as that of its readers.
func numbersOfReaders() []int {
	return []int{0, -1, 5, 6, 12, math.MinInt, math.MaxInt}
}

// badItems returns lists that are not the items of a tee.
func badItems() [][]int {
	return [][]int{make([]int, 13), make([]int, 60), {-1}, {100}, {0, 100}, {1, 2, -1}, {math.MinInt}, {math.MaxInt}, append(upToItems(11), 100)}
}

// badTees returns tees that are not valid.
func badTees() []impl.Tee {
	items := []int{5, 6, 7}
	out := []impl.Tee{
		{},
		{Items: items, Fed: 1},
		{Items: items, Places: []int{0}},
		{Items: items, Open: []bool{true}},
		{Items: items, Fed: 2, Places: []int{0, 1}, Open: []bool{true}},
		{Items: items, Fed: 2, Places: []int{0}, Open: []bool{true, true}},
		{Items: items, Fed: 2, Places: []int{0, 0, 0, 0}, Open: make([]bool, 5)},
		{Items: items, Fed: 2, Places: make([]int, 5), Open: make([]bool, 4)},
		tee(items, 1),
		tee(items, 0, 0, 0, 0, 0, 0),
		tee(items, 3, 1, 2, 3, 0, 1),
		tee(items, -1, 0),
		tee(items, -1, -1),
		tee(items, 4, 0),
		tee(items, 4, 4),
		tee(nil, 1, 0),
		tee(nil, 1, 1),
		tee(nil, 0, 1),
		tee(upToItems(12), 13, 0),
		tee(items, math.MinInt, 0),
		tee(items, math.MaxInt, 0),
		tee(items, 2, 3),
		tee(items, 2, 0, 3),
		tee(items, 2, 2, 2, 2, 3),
		tee(items, 2, -1),
		tee(items, 2, 0, -1),
		tee(items, 2, math.MinInt),
		tee(items, 2, 0, math.MaxInt),
		shut(tee(items, 2, 0, 3), 1),
		shut(tee(items, 2, 0, -1), 1),
	}
	for _, bad := range badItems() {
		out = append(out, tee(bad, 0, 0), tee(bad, 1, 0, 1), shut(tee(bad, 1, 0), 0))
	}
	return out
}

func TestValidTee(t *testing.T) {
	items := upToItems(12)
	for _, e := range []impl.Tee{
		tee(nil, 0, 0), tee(nil, 0, 0, 0, 0, 0), tee([]int{}, 0, 0, 0), shut(tee(nil, 0, 0), 0),
		tee([]int{0}, 0, 0), tee([]int{99}, 1, 1), tee([]int{0, 99}, 2, 0, 1, 2, 0), tee([]int{5, 6, 7}, 3, 3, 1),
		tee(items, 0, 0), tee(items, 12, 12), tee(items, 12, 0, 0, 0, 0), tee(items, 12, 12, 12, 12, 12), tee(items, 11, 3, 11),
		shut(tee(items, 5, 5, 0), 0), shut(tee(items, 5, 5, 0), 0, 1),
	} {
		if !impl.ValidTee(e) {
			t.Errorf("ValidTee(%v) = false", e)
		}
	}
	for _, e := range badTees() {
		if impl.ValidTee(e) {
			t.Errorf("ValidTee(%v) = true", e)
		}
	}
}

// checkTee holds all functions of a valid tee against the model.
func checkTee(t *testing.T, e impl.Tee) {
	t.Helper()
	if got := impl.HeldItems(e); !impl.ValidTee(e) || !slices.Equal(got, wantHeld(e)) {
		t.Errorf("HeldItems(%v) = %v, not %v", e, got, wantHeld(e))
	}
	for c := range e.Open {
		if !e.Open[c] {
			checkNoReader(t, e, c)
			continue
		}
		want, wantItem, wantOk := wantRead(e, c)
		if got, x, ok := impl.ReadTee(e, c); !sameTee(got, want) || x != wantItem || ok != wantOk {
			t.Errorf("ReadTee(%v, %d) = %v, %d, %v, not %v, %d, %v", e, c, got, x, ok, want, wantItem, wantOk)
		}
		if got, ok := impl.CloseReader(e, c); !ok || !sameTee(got, shut(e, c)) {
			t.Errorf("CloseReader(%v, %d) = %v, %v", e, c, got, ok)
		}
	}
}

// checkNoReader checks the results for a reader that cannot read.
func checkNoReader(t *testing.T, e impl.Tee, c int) {
	t.Helper()
	if got, x, ok := impl.ReadTee(e, c); ok || x != 0 || !noTee(got) {
		t.Errorf("ReadTee(%v, %d) = %v, %d, %v", e, c, got, x, ok)
	}
	if got, ok := impl.CloseReader(e, c); ok || !noTee(got) {
		t.Errorf("CloseReader(%v, %d) = %v, %v", e, c, got, ok)
	}
}

func TestTeesAgainstTheModel(t *testing.T) {
	ended, kept, closed := 0, 0, 0
	eachTee(t, func(e impl.Tee, _ dice) {
		checkTee(t, e)
		for _, c := range []int{-1, len(e.Places), 4, math.MinInt, math.MaxInt} {
			checkNoReader(t, e, c)
		}
		ended += yes(slices.Max(e.Places) == len(e.Items))
		kept += yes(len(wantHeld(e)) > 0)
		closed += yes(!slices.Contains(e.Open, true))
	})
	if ended < 300 || kept < 300 || closed < 100 {
		t.Errorf("only %d, %d and %d tees that end, hold items and are closed", ended, kept, closed)
	}
}

func TestReadTee(t *testing.T) {
	items := []int{5, 6, 7}
	for _, c := range []struct {
		e      impl.Tee
		reader int
		want   impl.Tee
		item   int
		ok     bool
	}{
		{tee(items, 0, 0), 0, tee(items, 1, 1), 5, true},
		{tee(items, 0, 0, 0), 1, tee(items, 1, 0, 1), 5, true},
		{tee(items, 1, 0, 1), 1, tee(items, 2, 0, 2), 6, true},
		{tee(items, 1, 0, 1), 0, tee(items, 1, 1, 1), 5, true}, // it was pulled for the other one
		{tee(items, 3, 0, 3), 0, tee(items, 3, 1, 3), 5, true},
		{tee(items, 3, 2, 3), 0, tee(items, 3, 3, 3), 7, true},
		{tee(items, 2, 2), 0, tee(items, 3, 3), 7, true},
		{tee(items, 2, 0, 0), 1, tee(items, 2, 0, 1), 5, true}, // no reader is at what is fed
		{tee(items, 3, 3, 0), 0, tee(items, 3, 3, 0), 0, false},
		{tee(items, 3, 3), 0, tee(items, 3, 3), 0, false},
		{tee(nil, 0, 0), 0, tee(nil, 0, 0), 0, false},
		{tee(nil, 0, 0, 0, 0, 0), 3, tee(nil, 0, 0, 0, 0, 0), 0, false},
		{tee([]int{0}, 0, 0), 0, tee([]int{0}, 1, 1), 0, true}, // an item that is 0
		{shut(tee(items, 2, 2, 1), 0), 1, shut(tee(items, 2, 2, 2), 0), 6, true},
		{shut(tee(items, 2, 2, 2), 0), 1, shut(tee(items, 3, 2, 3), 0), 7, true},
		{shut(tee(items, 2, 0, 2, 1), 0, 2), 1, shut(tee(items, 3, 0, 3, 1), 0, 2), 7, true},
		{shut(tee(items, 3, 0, 3), 0), 1, shut(tee(items, 3, 0, 3), 0), 0, false},
		{tee(upToItems(12), 11, 11, 11, 0, 0), 1, tee(upToItems(12), 12, 11, 12, 0, 0), 11, true},
	} {
		if got, x, ok := impl.ReadTee(c.e, c.reader); !sameTee(got, c.want) || x != c.item || ok != c.ok {
			t.Errorf("ReadTee(%v, %d) = %v, %d, %v", c.e, c.reader, got, x, ok)
		}
	}
}

// TestReadsAtTheEnd: a read at the end gives none, and so does each one after
// it, while others still read.
func TestReadsAtTheEnd(t *testing.T) {
	items := upToItems(12)
	e := impl.NewTee(items, 4)
	for _, x := range items {
		var got int
		var ok bool
		if e, got, ok = impl.ReadTee(e, 2); !ok || got != x {
			t.Fatalf("ReadTee gives %d, %v, not %d", got, ok, x)
		}
	}
	want := tee(items, 12, 0, 0, 12, 0)
	for range 3 {
		next, x, ok := impl.ReadTee(e, 2)
		if ok || x != 0 || !sameTee(next, want) || !slices.Equal(impl.HeldItems(next), items) {
			t.Errorf("ReadTee(%v, 2) at the end = %v, %d, %v", e, next, x, ok)
		}
		e = next
	}
	for i, x := range items {
		next, got, ok := impl.ReadTee(e, 0)
		if !ok || got != x || next.Fed != 12 || next.Places[0] != i+1 {
			t.Fatalf("ReadTee(%v, 0) = %v, %d, %v", e, next, got, ok)
		}
		e = next
	}
}

// TestOtherTees: a tee that is not valid has the fixed result in each function.
func TestOtherTees(t *testing.T) {
	for _, e := range badTees() {
		if got := impl.HeldItems(e); len(got) > 0 {
			t.Errorf("HeldItems(%v) = %v", e, got)
		}
		for _, c := range []int{0, 1, 2, 3, 4, -1, math.MinInt, math.MaxInt} {
			checkNoReader(t, e, c)
		}
	}
	for _, c := range []int{-1, 2, 3, 4, math.MinInt, math.MaxInt} {
		checkNoReader(t, tee([]int{5, 6, 7}, 2, 0, 1), c)
	}
}

// TestP44TeesStayValid: a valid tee is valid after each reader that is open has
// read an item.
func TestP44TeesStayValid(t *testing.T) {
	eachTee(t, func(e impl.Tee, _ dice) {
		for c := range e.Open {
			if !e.Open[c] {
				continue
			}
			next, _, _ := impl.ReadTee(e, c)
			if !impl.ValidTee(e) || !impl.ValidTee(next) || !wantValidTee(next) {
				t.Errorf("ReadTee(%v, %d) = %v is not valid", e, c, next)
			}
			e = next
		}
	})
}

// TestP45NewTeesHoldNothing: NewTee is valid, and HeldItems of it are none.
func TestP45NewTeesHoldNothing(t *testing.T) {
	for n := range 13 {
		for readers := 1; readers <= 4; readers++ {
			items := upToItems(n)
			e := impl.NewTee(items, readers)
			if !sameTee(e, tee(items, 0, make([]int, readers)...)) || !impl.ValidTee(e) || len(impl.HeldItems(e)) > 0 {
				t.Errorf("NewTee(%v, %d) = %v", items, readers, e)
			}
			for _, c := range numbersOfReaders() {
				if e := impl.NewTee(items, c); !noTee(e) {
					t.Errorf("NewTee(%v, %d) = %v", items, c, e)
				}
			}
		}
	}
	for _, bad := range badItems() {
		for readers := range 6 {
			if e := impl.NewTee(bad, readers); !noTee(e) {
				t.Errorf("NewTee(%v, %d) = %v", bad, readers, e)
			}
		}
	}
	if e := impl.NewTee([]int{0, 99}, 1); !impl.ValidTee(e) {
		t.Errorf("NewTee of 0 and 99 = %v", e)
	}
}

// TestP46ReadersDoNotSeeEachOther: ReadTee gives the item at the reader's
// place, and changes no other place. Readers, each with a list of its own, read
// and are closed as those of a tee.
func TestP46ReadersDoNotSeeEachOther(t *testing.T) {
	eachTee(t, func(e impl.Tee, d dice) {
		var left [][]int
		for _, place := range e.Places {
			left = append(left, e.Items[place:])
		}
		for range 40 {
			c := d.IntN(len(left))
			if !e.Open[c] {
				continue
			}
			if d.IntN(20) == 0 {
				e, _ = impl.CloseReader(e, c)
				continue
			}
			next, x, ok := impl.ReadTee(e, c)
			if ok != (len(left[c]) > 0) || ok && x != left[c][0] {
				t.Fatalf("ReadTee(%v, %d) = %v, %d, %v", e, c, next, x, ok)
			}
			if ok {
				left[c] = left[c][1:]
			}
			for other := range left {
				if next.Places[other] != len(e.Items)-len(left[other]) {
					t.Fatalf("ReadTee(%v, %d) = %v has other places", e, c, next)
				}
			}
			if next.Fed != max(e.Fed, next.Places[c]) || !slices.Equal(next.Items, e.Items) || !slices.Equal(next.Open, e.Open) {
				t.Fatalf("ReadTee(%v, %d) = %v is another tee", e, c, next)
			}
			e = next
		}
	})
}

func TestHeldItems(t *testing.T) {
	items := []int{5, 6, 7, 6}
	for _, c := range []struct {
		e    impl.Tee
		want []int
	}{
		{tee(items, 0, 0, 0), nil},
		{tee(items, 3, 3, 1), []int{6, 7}},
		{tee(items, 3, 1, 3), []int{6, 7}},
		{tee(items, 4, 4, 0, 2), items},
		{tee(items, 4, 4, 4), nil},
		{tee(items, 3, 1), []int{6, 7}}, // it was pulled for a reader that is not there
		{shut(tee(items, 3, 3, 1), 1), nil},
		{shut(tee(items, 3, 3, 1), 0), []int{6, 7}}, // a closed reader is ahead
		{shut(tee(items, 4, 0, 2, 4), 0), []int{7, 6}},
		{shut(tee(items, 4, 0, 2, 4), 1), items},
		{shut(tee(items, 4, 0, 2, 3), 0, 1), []int{6}},
		{shut(tee(items, 4, 0, 2, 3), 0, 1, 2), nil},
		{shut(tee(items, 4, 0), 0), nil},
		{tee(nil, 0, 0, 0), nil},
		{tee(upToItems(12), 12, 12, 0, 12, 12), upToItems(12)},
	} {
		if got := impl.HeldItems(c.e); !slices.Equal(got, c.want) {
			t.Errorf("HeldItems(%v) = %v", c.e, got)
		}
	}
}

// TestP47HeldItemsAreBetweenReaders: HeldItems has as many items as the fastest
// reader is ahead of the slowest open one, from what is fed.
func TestP47HeldItemsAreBetweenReaders(t *testing.T) {
	far := 0
	eachRun(t, func(items []int, readers int, turns []int, d dice) {
		e := impl.TeeAfter(items, readers, turns)
		fastest := slices.Max(e.Places)
		for c := d.IntN(readers + 1); c < readers; c += d.upTo(1, 3) {
			e, _ = impl.CloseReader(e, c)
		}
		slowest := fastest
		for c, open := range e.Open {
			if open {
				slowest = min(slowest, e.Places[c])
			}
		}
		got := impl.HeldItems(e)
		if e.Fed != fastest || len(got) != fastest-slowest || !slices.Equal(got, items[slowest:e.Fed]) {
			t.Errorf("HeldItems(%v) = %v", e, got)
		}
		far += yes(len(got) == 12)
	})
	if far < 100 {
		t.Errorf("only %d readers were ahead by all items", far)
	}
}

// TestP48ClosedReadersHoldNothing: after CloseReader HeldItems are the last
// ones of those before, and the reader reads no more.
func TestP48ClosedReadersHoldNothing(t *testing.T) {
	freed := 0
	eachTee(t, func(e impl.Tee, _ dice) {
		before := impl.HeldItems(e)
		for c := range e.Open {
			if !e.Open[c] {
				continue
			}
			next, ok := impl.CloseReader(e, c)
			after := impl.HeldItems(next)
			if !ok || !impl.ValidTee(next) || len(after) > len(before) || !slices.Equal(before[len(before)-len(after):], after) {
				t.Fatalf("CloseReader(%v, %d) = %v, %v, which holds %v", e, c, next, ok, after)
			}
			checkNoReader(t, next, c) // neither reads nor is closed again
			checkTee(t, next)
			freed += yes(len(after) < len(before))
			e, before = next, after
		}
		if got := impl.HeldItems(e); len(got) > 0 {
			t.Errorf("HeldItems(%v) = %v, without an open reader", e, got)
		}
	})
	if freed < 300 {
		t.Errorf("only %d closed readers were the slowest ones", freed)
	}
}

func TestCloseReader(t *testing.T) {
	items := []int{5, 6, 7}
	e := tee(items, 3, 0, 3, 1)
	for _, c := range []struct {
		reader int
		held   []int
	}{{0, []int{6, 7}}, {2, nil}, {1, nil}} { // the furthest behind, then the next one, then the last open one
		next, ok := impl.CloseReader(e, c.reader)
		if !ok || !sameTee(next, shut(e, c.reader)) || !slices.Equal(impl.HeldItems(next), c.held) {
			t.Errorf("CloseReader(%v, %d) = %v, %v", e, c.reader, next, ok)
		}
		checkNoReader(t, next, c.reader)
		e = next
	}
	if slices.Contains(e.Open, true) || !impl.ValidTee(e) {
		t.Errorf("%v is not valid, or still open", e)
	}
	for c := range 4 {
		checkNoReader(t, e, c)
	}
	none := impl.NewTee(nil, 1)
	if got, ok := impl.CloseReader(none, 0); !ok || !sameTee(got, shut(none, 0)) {
		t.Errorf("CloseReader(%v, 0) = %v, %v", none, got, ok)
	}
}
