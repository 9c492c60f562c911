package tests

import (
	"slices"
	"testing"

	"loop.example/pullstreams/impl"
)

// This file checks for any function that it leaves its arguments as they are,
// and that its results have memory of their own.

// strange is a number that no function returns.
const strange = -77

// world has arguments for all functions, each with spare capacity behind it.
type world struct {
	e, f  impl.Pipe
	src   [][]int
	other [][]int
	to    []int
	s     impl.State
	tee   impl.Tee
	k     int

	code, outer []impl.Order
	g           impl.Gen
	resumes     []impl.Resume

	steps []bool
}

// result is what a function returns.
type result struct {
	list  []int
	e     impl.Pipe
	s     impl.State
	pulls []impl.Pull
	lists [][]int
	tee   impl.Tee

	events []impl.Event
	steps  []bool
}

// call is a function, and its result.
type call struct {
	name string
	run  func(w world) result
}

// roomy returns a list with spare capacity that is not empty.
func roomy[T any](list []T, spare T) []T {
	return append(slices.Clone(list), spare, spare, spare)[:len(list)]
}

// newWorld returns arguments.
func newWorld(e impl.Pipe, src [][]int) world {
	n := node(strange, strange, strange, strange, strange)
	return world{
		e:   impl.Pipe{Nodes: roomy(e.Nodes, n)},
		f:   impl.Pipe{Nodes: roomy(tangled().Nodes, n)},
		src: roomyLists(src),
		to:  roomy([]int{1, 2, 0}, strange),
	}
}

// roomyLists returns lists with spare capacity, in one with spare capacity.
func roomyLists(lists [][]int) [][]int {
	var out [][]int
	for _, list := range lists {
		out = append(out, roomy(list, strange))
	}
	return append(out, []int{strange})[:len(lists)]
}

// withPipe returns arguments that have another pipe, and the number of a node.
func (w world) withPipe(f impl.Pipe, i int) world {
	w.f = impl.Pipe{Nodes: roomy(f.Nodes, node(strange, strange, strange, strange, strange))}
	w.k = i
	return w
}

// withState returns arguments that have a state, and a number of pulls.
func (w world) withState(s impl.State, k int) world {
	w.s = impl.State{Cells: roomy(s.Cells, impl.Cell{Count: strange})}
	w.k = k
	return w
}

// withOther returns arguments that have other sources, numbers for each source,
// and a number of pulls.
func (w world) withOther(other [][]int, to []int, k int) world {
	w.other, w.to, w.k = roomyLists(other), roomy(to, strange), k
	return w
}

// withTee returns arguments that have a tee, turns, and the number of a reader.
func (w world) withTee(t impl.Tee, turns []int, c int) world {
	w.tee = impl.Tee{Items: roomy(t.Items, strange), Fed: t.Fed, Places: roomy(t.Places, strange), Open: roomy(t.Open, true)}
	w.to, w.k = roomy(turns, strange), c
	return w
}

// withCodes returns arguments that have two codes, a generator of the first one,
// resumes, and a number of them.
func (w world) withCodes(code, outer []impl.Order, g impl.Gen, list []impl.Resume, k int) world {
	o := order(strange, strange, strange)
	w.code, w.outer, w.g = roomy(code, o), roomy(outer, o), g
	w.resumes, w.k = roomy(list, resume(strange, strange)), k
	return w
}

// withSteps returns arguments that have the steps of a queue, and a number.
func (w world) withSteps(steps []bool, k int) world {
	w.steps, w.k = roomy(steps, true), k
	return w
}

// all returns a list with its spare capacity.
func all[T any](list []T) []T {
	return list[:cap(list)]
}

// copyAll returns the same list, with the same spare capacity, in other memory.
func copyAll[T any](list []T) []T {
	return slices.Clone(all(list))[:len(list):cap(list)]
}

// spoil overwrites a list with its spare capacity.
func spoil[T any](list []T, with T) {
	for i := range all(list) {
		all(list)[i] = with
	}
}

// spoilBools overwrites a list with its spare capacity. Neither of the two values
// is strange, so that each becomes the other one.
func spoilBools(list []bool) {
	for i, is := range all(list) {
		all(list)[i] = !is
	}
}

// sameWorld reports whether all arguments are the same, the spare capacity
// included.
func sameWorld(v, w world) bool {
	same := slices.Equal(all(v.e.Nodes), all(w.e.Nodes)) && slices.Equal(all(v.f.Nodes), all(w.f.Nodes)) && slices.Equal(all(v.to), all(w.to))
	same = same && slices.Equal(all(v.s.Cells), all(w.s.Cells)) && sameTee(allTee(v.tee), allTee(w.tee))
	same = same && slices.Equal(all(v.code), all(w.code)) && slices.Equal(all(v.outer), all(w.outer)) && slices.Equal(all(v.resumes), all(w.resumes))
	same = same && slices.Equal(all(v.steps), all(w.steps))
	return same && sameLists(v.src, w.src) && sameLists(v.other, w.other)
}

// allTee returns a tee with the spare capacity of its lists.
func allTee(t impl.Tee) impl.Tee {
	return impl.Tee{Items: all(t.Items), Fed: t.Fed, Places: all(t.Places), Open: all(t.Open)}
}

// copyAllTee returns the same tee, with the same spare capacity, in other
// memory.
func copyAllTee(t impl.Tee) impl.Tee {
	return impl.Tee{Items: copyAll(t.Items), Fed: t.Fed, Places: copyAll(t.Places), Open: copyAll(t.Open)}
}

// sameLists reports whether lists are the same, the spare capacity included.
func sameLists(a, b [][]int) bool {
	return slices.EqualFunc(all(a), all(b), func(x, y []int) bool {
		return slices.Equal(all(x), all(y))
	})
}

// copyLists returns the same lists, with the same spare capacity, in other
// memory.
func copyLists(lists [][]int) [][]int {
	out := copyAll(lists)
	for i, list := range all(lists) {
		all(out)[i] = copyAll(list)
	}
	return out
}

// copyWorld returns the same arguments in other memory.
func copyWorld(w world) world {
	out := w
	out.e.Nodes, out.f.Nodes = copyAll(w.e.Nodes), copyAll(w.f.Nodes)
	out.to, out.s.Cells = copyAll(w.to), copyAll(w.s.Cells)
	out.src, out.other = copyLists(w.src), copyLists(w.other)
	out.tee = copyAllTee(w.tee)
	out.code, out.outer, out.resumes = copyAll(w.code), copyAll(w.outer), copyAll(w.resumes)
	out.steps = copyAll(w.steps)
	return out
}

// spoilWorld overwrites all arguments.
func spoilWorld(w world) {
	spoilResult(result{e: w.e, list: w.to, s: w.s, lists: w.src})
	spoilResult(result{e: w.f, lists: w.other, tee: w.tee})
	spoil(w.code, order(strange-1, 0, 0))
	spoil(w.outer, order(strange-1, 0, 0))
	spoil(w.resumes, resume(strange-1, 0))
	spoilBools(w.steps)
}

// sameResult reports whether two results are the same.
func sameResult(a, b result) bool {
	same := slices.Equal(a.list, b.list) && samePipe(a.e, b.e) && slices.Equal(a.s.Cells, b.s.Cells)
	same = same && slices.Equal(a.pulls, b.pulls) && sameSources(a.lists, b.lists) && sameTee(a.tee, b.tee)
	return same && slices.Equal(a.events, b.events) && slices.Equal(a.steps, b.steps)
}

// copyResult returns the same result in other memory.
func copyResult(r result) result {
	return result{slices.Clone(r.list), impl.Pipe{Nodes: slices.Clone(r.e.Nodes)}, impl.State{Cells: slices.Clone(r.s.Cells)}, slices.Clone(r.pulls), copyLists(r.lists), copyAllTee(r.tee), slices.Clone(r.events), slices.Clone(r.steps)}
}

// spoilResult overwrites a result with its spare capacity.
func spoilResult(r result) {
	spoil(r.list, strange-1)
	spoil(r.e.Nodes, node(strange-1, 0, 0, 0, 0))
	spoil(r.s.Cells, impl.Cell{Count: strange - 1})
	spoil(r.pulls, impl.Pull{Source: strange - 1})
	for _, list := range all(r.lists) {
		spoil(list, strange-1)
	}
	spoil(r.lists, []int{strange - 1})
	spoil(r.events, event(strange-1, 0))
	spoil(r.tee.Items, strange-1)
	spoil(r.tee.Places, strange-1)
	spoilBools(r.tee.Open)
	spoilBools(r.steps)
}

// apart reports whether no two lists share memory. It overwrites each one.
func apart(lists [][]int) bool {
	for i, list := range all(lists) {
		spoil(list, i)
	}
	for i, list := range all(lists) {
		if slices.ContainsFunc(all(list), func(x int) bool { return x != i }) {
			return false
		}
	}
	return true
}

// asPipe returns a call of a function that returns a pipe.
func asPipe(name string, run func(w world) impl.Pipe) call {
	return call{name, func(w world) result { return result{e: run(w)} }}
}

// asList returns a call of a function that returns a list.
func asList(name string, run func(w world) []int) call {
	return call{name, func(w world) result { return result{list: run(w)} }}
}

// asNumber returns a call of a function that returns a number.
func asNumber(name string, run func(w world) int) call {
	return asList(name, func(w world) []int { return []int{run(w)} })
}

// asState returns a call of a function that returns a state.
func asState(name string, run func(w world) impl.State) call {
	return call{name, func(w world) result { return result{s: run(w)} }}
}

// yes returns 1 for true.
func yes(is bool) int {
	if is {
		return 1
	}
	return 0
}

// checkMemory checks that a call changes no argument, and that its result
// shares no memory with an argument, or with that of another call.
func checkMemory(t *testing.T, c call, before world) {
	t.Helper()
	w := copyWorld(before)
	first := c.run(w)
	want := copyResult(first)
	if !sameWorld(w, before) {
		t.Errorf("%s of %v changes an argument", c.name, before)
	}
	again := c.run(w)
	if !sameResult(again, want) {
		t.Errorf("%s of %v has another result the second time", c.name, before)
	}
	if !apart(slices.Concat(again.lists, [][]int{again.tee.Items, again.tee.Places})) {
		t.Errorf("the lists of the result of %s of %v share memory", c.name, before)
	}
	spoilResult(again)
	if !sameWorld(w, before) {
		t.Errorf("the result of %s of %v shares memory with an argument", c.name, before)
	}
	spoilWorld(w)
	if !sameResult(first, want) {
		t.Errorf("the result of %s of %v shares memory with an argument or a result", c.name, before)
	}
}
