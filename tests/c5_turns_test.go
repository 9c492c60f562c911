package tests

import (
	"math"
	"slices"
	"testing"

	"loop.example/pullstreams/impl"
)

// checkRun holds all functions of turns against the model.
func checkRun(t *testing.T, items []int, readers int, turns []int) {
	t.Helper()
	want := wantRun(items, turns)
	if got := impl.RunTee(items, readers, turns); !slices.Equal(got, want) {
		t.Errorf("RunTee(%v, %d, %v) = %v, not %v", items, readers, turns, got, want)
	}
	if got, after := impl.TeeAfter(items, readers, turns), wantAfter(items, readers, turns); !sameTee(got, after) {
		t.Errorf("TeeAfter(%v, %d, %v) = %v, not %v", items, readers, turns, got, after)
	}
	if got, most := impl.MostHeld(items, readers, turns), wantMostHeld(items, readers, turns); got != most {
		t.Errorf("MostHeld(%v, %d, %v) = %d, not %d", items, readers, turns, got, most)
	}
	for c := range readers {
		reads := items[:min(turnsOf(turns, c), len(items))]
		if got := impl.ReadBy(items, readers, turns, c); !slices.Equal(got, reads) {
			t.Errorf("ReadBy(%v, %d, %v, %d) = %v, not %v", items, readers, turns, c, got, reads)
		}
	}
	for _, c := range []int{-1, readers, 4, math.MinInt, math.MaxInt} {
		if got := impl.ReadBy(items, readers, turns, c); len(got) > 0 {
			t.Errorf("ReadBy(%v, %d, %v, %d) = %v", items, readers, turns, c, got)
		}
	}
}

// checkNoRun checks the results for arguments that are not valid.
func checkNoRun(t *testing.T, items []int, readers int, turns []int) {
	t.Helper()
	if got := impl.RunTee(items, readers, turns); len(got) > 0 {
		t.Errorf("RunTee(%v, %d, %v) = %v", items, readers, turns, got)
	}
	if got := impl.TeeAfter(items, readers, turns); !noTee(got) {
		t.Errorf("TeeAfter(%v, %d, %v) = %v", items, readers, turns, got)
	}
	if got := impl.MostHeld(items, readers, turns); got != -1 {
		t.Errorf("MostHeld(%v, %d, %v) = %d", items, readers, turns, got)
	}
	for c := -1; c < 5; c++ {
		if got := impl.ReadBy(items, readers, turns, c); len(got) > 0 {
			t.Errorf("ReadBy(%v, %d, %v, %d) = %v", items, readers, turns, c, got)
		}
	}
}

func TestRunsAgainstTheModel(t *testing.T) {
	none, full := 0, 0
	eachRun(t, func(items []int, readers int, turns []int, _ dice) {
		checkRun(t, items, readers, turns)
		none, full = none+yes(len(turns) == 0), full+yes(len(turns) == 60)
	})
	if none < 300 || full < 300 {
		t.Errorf("only %d and %d runs with no turns and with all", none, full)
	}
}

func TestRunTee(t *testing.T) {
	items := []int{5, 6, 7}
	for _, c := range []struct {
		items   []int
		readers int
		turns   []int
		want    []int
		most    int
		fed     int
	}{
		{items, 2, nil, nil, 0, 0},
		{items, 1, []int{0, 0}, []int{5, 6}, 0, 2},
		{items, 1, []int{0, 0, 0, 0, 0}, []int{5, 6, 7, -1, -1}, 0, 3},
		{items, 2, []int{0, 0, 1, 0, 0}, []int{5, 6, 5, 7, -1}, 2, 3},
		{items, 2, []int{1, 1, 1, 1, 0, 0, 0, 0, 1}, []int{5, 6, 7, -1, 5, 6, 7, -1, -1}, 3, 3},
		{items, 4, []int{3, 2, 1, 0}, []int{5, 5, 5, 5}, 1, 1},
		{items, 4, []int{3}, []int{5}, 1, 1},
		{items, 2, []int{0, 1, 1, 0}, []int{5, 5, 6, 6}, 1, 2},
		{items, 2, []int{0, 0, 1, 1}, []int{5, 6, 5, 6}, 2, 2}, // the most are held in between
		{nil, 1, []int{0, 0}, []int{-1, -1}, 0, 0},
		{nil, 4, []int{3, 0, 3}, []int{-1, -1, -1}, 0, 0},
		{nil, 4, nil, nil, 0, 0},
		{[]int{0}, 2, []int{1, 1}, []int{0, -1}, 1, 1},
	} {
		got, e := impl.RunTee(c.items, c.readers, c.turns), impl.TeeAfter(c.items, c.readers, c.turns)
		most := impl.MostHeld(c.items, c.readers, c.turns)
		if !slices.Equal(got, c.want) || most != c.most || e.Fed != c.fed || len(e.Places) != c.readers {
			t.Errorf("RunTee(%v, %d, %v) = %v, most %d, %v", c.items, c.readers, c.turns, got, most, e)
		}
		checkRun(t, c.items, c.readers, c.turns)
	}
}

// TestMostTurns: one of four readers reads all of the most items, and the most
// turns go on from there.
func TestMostTurns(t *testing.T) {
	items := upToItems(12)
	turns := slices.Concat(slices.Repeat([]int{3}, 12), slices.Repeat([]int{0}, 24), slices.Repeat([]int{1}, 24))
	checkRun(t, items, 4, turns)
	if got := impl.MostHeld(items, 4, turns); len(turns) != 60 || got != 12 {
		t.Errorf("MostHeld of %d turns = %d", len(turns), got)
	}
	if got := impl.HeldItems(impl.TeeAfter(items, 4, turns)); !slices.Equal(got, items) {
		t.Errorf("HeldItems = %v, though the reader 2 read nothing", got)
	}
	checkRun(t, items, 1, make([]int, 60))
	checkRun(t, nil, 1, make([]int, 60))
	checkNoRun(t, items, 4, append(turns, 0))
	checkNoRun(t, items, 1, make([]int, 61))
	checkNoRun(t, nil, 1, make([]int, 61))
}

func TestRunTeeOfOtherArguments(t *testing.T) {
	items := []int{5, 6, 7}
	for _, readers := range numbersOfReaders() {
		for _, turns := range [][]int{nil, {0}, {0, 1}, {-1}, {math.MaxInt}} {
			checkNoRun(t, items, readers, turns)
		}
	}
	for _, bad := range badItems() {
		for _, turns := range [][]int{nil, {0}, {0, 1, 0}} {
			checkNoRun(t, bad, 2, turns)
		}
	}
	for readers := 1; readers <= 4; readers++ {
		for _, c := range []int{-1, readers, 5, math.MinInt, math.MaxInt} {
			for _, turns := range [][]int{{c}, {0, c}, {c, 0}, {0, 0, 0, 0, 0, c}} {
				checkNoRun(t, items, readers, turns)
			}
		}
	}
}

// TestP49EachItemIsPulledOnce: RunTee of the first turns is the beginning of
// that of all, and Fed is the greatest number that a reader read.
func TestP49EachItemIsPulledOnce(t *testing.T) {
	eachRun(t, func(items []int, readers int, turns []int, _ dice) {
		whole := impl.RunTee(items, readers, turns)
		if len(whole) != len(turns) {
			t.Fatalf("RunTee(%v, %d, %v) = %v", items, readers, turns, whole)
		}
		for k := range len(turns) + 1 {
			if got := impl.RunTee(items, readers, turns[:k]); !slices.Equal(got, whole[:k]) {
				t.Fatalf("RunTee(%v, %d, %v) = %v is not the beginning of %v", items, readers, turns[:k], got, whole)
			}
		}
		e := impl.TeeAfter(items, readers, turns)
		greatest := 0
		for c := range readers {
			greatest = max(greatest, len(impl.ReadBy(items, readers, turns, c)))
		}
		if e.Fed != greatest {
			t.Errorf("TeeAfter(%v, %d, %v) = %v, though a reader read %d", items, readers, turns, e, greatest)
		}
	})
}

// TestP50TeesAreMadeTurnByTurn: TeeAfter is ReadTee of the last turn after all
// others.
func TestP50TeesAreMadeTurnByTurn(t *testing.T) {
	eachRun(t, func(items []int, readers int, turns []int, _ dice) {
		e := impl.NewTee(items, readers)
		reads := impl.RunTee(items, readers, turns)
		for k, c := range turns {
			if got := impl.TeeAfter(items, readers, turns[:k]); !sameTee(got, e) {
				t.Fatalf("TeeAfter(%v, %d, %v) = %v, not %v", items, readers, turns[:k], got, e)
			}
			next, x, ok := impl.ReadTee(e, c)
			if ok && x != reads[k] || !ok && reads[k] != -1 {
				t.Fatalf("ReadTee(%v, %d) gives %d, %v, and RunTee %v", e, c, x, ok, reads)
			}
			e = next
		}
		if got := impl.TeeAfter(items, readers, turns); !sameTee(got, e) {
			t.Errorf("TeeAfter(%v, %d, %v) = %v, not %v", items, readers, turns, got, e)
		}
	})
}

// TestP51FairTurnsHoldLittle: MostHeld is at most the number of items, at least
// that of HeldItems at the end, and at most 1 with FairTurns.
func TestP51FairTurnsHoldLittle(t *testing.T) {
	between := 0
	eachRun(t, func(items []int, readers int, turns []int, d dice) {
		most := impl.MostHeld(items, readers, turns)
		end := len(impl.HeldItems(impl.TeeAfter(items, readers, turns)))
		if most > len(items) || most < end {
			t.Errorf("MostHeld(%v, %d, %v) = %d, and %d at the end", items, readers, turns, most, end)
		}
		between += yes(most > end)
		fair := impl.FairTurns(readers, d.upTo(1, 12))
		want := min(1, readers-1, len(items)) // nothing is held for one reader, and nothing of nothing
		for k := 2; k <= len(fair); k++ {
			if got := impl.MostHeld(items, readers, fair[:k]); got != want {
				t.Errorf("MostHeld(%v, %d, %v) = %d", items, readers, fair[:k], got)
			}
		}
	})
	if between < 300 {
		t.Errorf("only %d runs held more in between", between)
	}
}

// TestP52EachReaderReadsFromTheFirstOneOn: ReadBy is a beginning of the items,
// as long as the reader has turns.
func TestP52EachReaderReadsFromTheFirstOneOn(t *testing.T) {
	fewer := 0
	eachRun(t, func(items []int, readers int, turns []int, _ dice) {
		for c := range readers {
			got := impl.ReadBy(items, readers, turns, c)
			n := min(turnsOf(turns, c), len(items))
			if !slices.Equal(got, items[:n]) {
				t.Errorf("ReadBy(%v, %d, %v, %d) = %v", items, readers, turns, c, got)
			}
			fewer += yes(0 < n && n < len(items))
		}
	})
	if fewer < 1000 {
		t.Errorf("only %d readers read just some of the items", fewer)
	}
}

// TestP53FairTurnsComeRound: FairTurns has each reader as often, and the
// readers in order.
func TestP53FairTurnsComeRound(t *testing.T) {
	for readers := 1; readers <= 4; readers++ {
		for rounds := 1; rounds <= 12; rounds++ {
			turns := impl.FairTurns(readers, rounds)
			for c := range readers {
				if n := turnsOf(turns, c); n != rounds {
					t.Errorf("FairTurns(%d, %d) = %v has %d turns of %d", readers, rounds, turns, n, c)
				}
			}
			for i, c := range turns {
				if c != i%readers {
					t.Errorf("FairTurns(%d, %d) = %v is not in order", readers, rounds, turns)
				}
			}
			if len(turns) != readers*rounds {
				t.Errorf("FairTurns(%d, %d) = %v", readers, rounds, turns)
			}
		}
	}
	for _, rounds := range []int{0, -1, 13, 14, 60, math.MinInt, math.MaxInt} {
		for readers := -1; readers <= 5; readers++ {
			if turns := impl.FairTurns(readers, rounds); len(turns) > 0 {
				t.Errorf("FairTurns(%d, %d) = %v", readers, rounds, turns)
			}
		}
	}
	for _, readers := range numbersOfReaders() {
		for _, rounds := range []int{0, 1, 2, 12, 13} {
			if turns := impl.FairTurns(readers, rounds); len(turns) > 0 {
				t.Errorf("FairTurns(%d, %d) = %v", readers, rounds, turns)
			}
		}
	}
}

// TestFairTurnsReadAll: with as many rounds as items each reader reads all.
func TestFairTurnsReadAll(t *testing.T) {
	for n := 1; n <= 12; n++ {
		items := upToItems(n)
		for readers := 1; readers <= 4; readers++ {
			turns := impl.FairTurns(readers, n)
			e := impl.TeeAfter(items, readers, turns)
			if e.Fed != n || slices.Min(e.Places) != n || len(impl.HeldItems(e)) > 0 {
				t.Errorf("TeeAfter(%v, %d, %v) = %v", items, readers, turns, e)
			}
		}
	}
}
