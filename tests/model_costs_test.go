package tests

import (
	"slices"

	"loop.example/pullstreams/impl"
)

// This file has the meaning of costs once more, told by counting in the pulls
// that the model without states lists.

// costs is what pulls at the sources have looked at.
type costs struct {
	total          int
	given, reached []int
	ended          []bool
}

// wantCosts returns what pulls at the sources have looked at.
func wantCosts(pulls []impl.Pull) costs {
	c := costs{total: len(pulls)}
	for s := range 3 {
		given, reached := 0, 0
		for i := range 12 {
			for _, p := range pulls {
				if p == (impl.Pull{Source: s, Item: i}) {
					given++
					reached = i + 1
				}
			}
		}
		c.given, c.reached = append(c.given, given), append(c.reached, reached)
		c.ended = append(c.ended, slices.Contains(pulls, impl.Pull{Source: s, Item: -1}))
	}
	return c
}

// wantTable returns the number of pulls at the sources ahead of the first
// answer, and behind each one.
func wantTable(answers line) []int {
	out := []int{0}
	for i := range answers {
		out = append(out, len(pullsOf(answers[:i+1])))
	}
	return out
}

// wantWait returns the number of pulls of the answer that has most of them.
func wantWait(answers line) int {
	out := 0
	for _, x := range answers {
		out = max(out, len(x.pulls))
	}
	return out
}

// wantFor returns the number of the first answer with a pull that gives an
// item; -1 if there is none.
func wantFor(answers line, s, i int) int {
	given := func(x answer) bool {
		return slices.Contains(x.pulls, impl.Pull{Source: s, Item: i})
	}
	at := slices.IndexFunc(answers, given)
	if at < 0 || i < 0 {
		return -1
	}
	return at + 1
}

// wantSameView reports whether pulls with the sources a cannot tell b from a:
// they would look at the same items, and at the same ends.
func wantSameView(pulls []impl.Pull, a, b [][]int) bool {
	for _, p := range pulls {
		switch {
		case p.Item == -1:
			if len(a[p.Source]) != len(b[p.Source]) {
				return false
			}
		case p.Item >= len(b[p.Source]) || a[p.Source][p.Item] != b[p.Source][p.Item]:
			return false
		}
	}
	return true
}
