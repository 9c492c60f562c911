package tests

import (
	"slices"

	"loop.example/pullstreams/impl"
)

// This file has the meaning of tees once more. What is read is told by counting
// the turns of a reader, and what is held by asking for each item who still
// has to read it.

// wantValidTee reports whether a tee is valid.
func wantValidTee(t impl.Tee) bool {
	if len(t.Items) > 12 || t.Fed < 0 || t.Fed > len(t.Items) || len(t.Places) != len(t.Open) {
		return false
	}
	for _, x := range t.Items {
		if x < 0 || x > 99 {
			return false
		}
	}
	for _, place := range t.Places {
		if place < 0 || place > t.Fed {
			return false
		}
	}
	return len(t.Open) >= 1 && len(t.Open) <= 4
}

// wantRead returns a valid tee after an open reader read, and what it read.
func wantRead(t impl.Tee, c int) (impl.Tee, int, bool) {
	out := copyAllTee(t)
	at := t.Places[c]
	if at == len(t.Items) {
		return out, 0, false
	}
	out.Places[c] = at + 1
	if at == t.Fed {
		out.Fed = at + 1
	}
	return out, t.Items[at], true
}

// wantHeld returns the items that a valid tee must hold.
func wantHeld(t impl.Tee) []int {
	var out []int
	for i, x := range t.Items {
		waits := false
		for c, place := range t.Places {
			waits = waits || t.Open[c] && place <= i
		}
		if i < t.Fed && waits {
			out = append(out, x)
		}
	}
	return out
}

// wantTurns reports whether the arguments of RunTee are valid.
func wantTurns(items []int, readers int, turns []int) bool {
	if readers < 1 || readers > 4 || len(turns) > 60 {
		return false
	}
	for _, c := range turns {
		if c < 0 || c >= readers {
			return false
		}
	}
	return wantValidTee(impl.Tee{Items: items, Places: []int{0}, Open: []bool{true}})
}

// turnsOf returns how many turns a reader has.
func turnsOf(turns []int, c int) int {
	n := 0
	for _, x := range turns {
		if x == c {
			n++
		}
	}
	return n
}

// wantRun returns what the readers of turns read.
func wantRun(items []int, turns []int) []int {
	var out []int
	for i, c := range turns {
		at := turnsOf(turns[:i], c)
		if at < len(items) {
			out = append(out, items[at])
		} else {
			out = append(out, -1)
		}
	}
	return out
}

// wantAfter returns the tee after turns.
func wantAfter(items []int, readers int, turns []int) impl.Tee {
	t := impl.Tee{Items: items}
	for c := range readers {
		place := min(turnsOf(turns, c), len(items))
		t.Places = append(t.Places, place)
		t.Open = append(t.Open, true)
		t.Fed = max(t.Fed, place)
	}
	return t
}

// wantMostHeld returns the greatest number of items that are held.
func wantMostHeld(items []int, readers int, turns []int) int {
	most := 0
	for k := range len(turns) + 1 {
		after := wantAfter(items, readers, turns[:k])
		most = max(most, slices.Max(after.Places)-slices.Min(after.Places))
	}
	return most
}
