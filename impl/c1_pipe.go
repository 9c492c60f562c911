package impl

import "slices"

// MaxSources is the number of sources.
const MaxSources = 3

// MaxItems is the largest number of items of a source.
const MaxItems = 12

// Modulus is the number by which sums and products are divided.
const Modulus = 100

// MaxCount is the greatest count of a node.
const MaxCount = 30

// MaxNodes is the largest number of nodes of a pipe.
const MaxNodes = 12

// NkSource is a kind of node: a source.
const NkSource = 0

// NkMap is a kind of node: each item is another one.
const NkMap = 1

// NkFilter is a kind of node: some items are let through.
const NkFilter = 2

// NkTake is a kind of node: the first items.
const NkTake = 3

// NkDrop is a kind of node: all but the first items.
const NkDrop = 4

// NkWhile is a kind of node: the items ahead of a great one.
const NkWhile = 5

// NkSkip is a kind of node: the items from a great one on.
const NkSkip = 6

// NkChain is a kind of node: one list behind the other.
const NkChain = 7

// NkZip is a kind of node: sums of items at equal places.
const NkZip = 8

// NkMerge is a kind of node: two lists are merged.
const NkMerge = 9

// NkTurn is a kind of node: items of two lists by turns.
const NkTurn = 10

// NkScan is a kind of node: running sums.
const NkScan = 11

// NkBatch is a kind of node: sums of groups.
const NkBatch = 12

// NkOnce is a kind of node: equal neighbours come once.
const NkOnce = 13

// noNode stands in A and B where there is no node below.
const noNode = -1

// Node is a node of a pipe: its kind, the nodes below it, and its numbers.
type Node struct {
	Kind int
	A    int
	B    int
	N    int
	M    int
}

// Pipe is a pipe of nodes, the last one of which is its end.
type Pipe struct {
	Nodes []Node
}

// tree is a node of a valid pipe with all that is below it. Each number of
// nodes below is a type of its own, so that nothing looks at an A or a B that
// is not there.
type tree interface {
	// depth returns the number of nodes on the longest way down.
	depth() int
	// addTo returns the nodes with those of the tree behind them, in order.
	// A and B are told anew, as the places below have changed by then.
	addTo(nodes []Node) []Node
}

// leaf is a node with none below.
type leaf struct {
	node Node
}

// stem is a node with one below.
type stem struct {
	node  Node
	under tree
}

// fork is a node with two below.
type fork struct {
	node Node
	a    tree
	b    tree
}

func (t leaf) depth() int {
	return 1
}

func (t stem) depth() int {
	return 1 + t.under.depth()
}

func (t fork) depth() int {
	return 1 + max(t.a.depth(), t.b.depth())
}

func (t leaf) addTo(nodes []Node) []Node {
	return append(nodes, t.node)
}

func (t stem) addTo(nodes []Node) []Node {
	nodes = t.under.addTo(nodes)
	n := t.node
	n.A, n.B = len(nodes)-1, noNode
	return append(nodes, n)
}

func (t fork) addTo(nodes []Node) []Node {
	n := t.node
	nodes = t.a.addTo(nodes)
	n.A = len(nodes) - 1
	nodes = t.b.addTo(nodes)
	n.B = len(nodes) - 1
	return append(nodes, n)
}

// treeAt returns the tree of the node i of a valid pipe.
func treeAt(e Pipe, i int) tree {
	return treeWith(e, i, noNode, nil)
}

// treeWith returns the tree of the node i of a valid pipe in which another tree
// stands in the place of the node at.
func treeWith(e Pipe, i, at int, other tree) tree {
	if i == at {
		return other
	}
	n := e.Nodes[i]
	switch nodesBelow(n.Kind) {
	case 0:
		return leaf{n}
	case 1:
		return stem{n, treeWith(e, n.A, at, other)}
	}
	return fork{n, treeWith(e, n.A, at, other), treeWith(e, n.B, at, other)}
}

// treeOf returns the tree of the end of a valid pipe.
func treeOf(e Pipe) tree {
	return treeAt(e, len(e.Nodes)-1)
}

// pipeOf returns the pipe of a tree, in order.
func pipeOf(t tree) Pipe {
	return Pipe{Nodes: t.addTo(nil)}
}

// within reports whether n is in low..high.
func within(n, low, high int) bool {
	return low <= n && n <= high
}

// allWithin reports whether each number of a list is in low..high.
func allWithin(list []int, low, high int) bool {
	for _, n := range list {
		if !within(n, low, high) {
			return false
		}
	}
	return true
}

// validItems reports whether a list can be that of a source.
func validItems(items []int) bool {
	return len(items) <= MaxItems && allWithin(items, 0, Modulus-1)
}

// ValidSources reports whether lists are sources.
func ValidSources(src [][]int) bool {
	if len(src) != MaxSources {
		return false
	}
	for _, items := range src {
		if !validItems(items) {
			return false
		}
	}
	return true
}

// nodesBelow returns how many nodes are below one of a kind; -1 if there is no
// such kind.
func nodesBelow(kind int) int {
	switch kind {
	case NkSource:
		return 0
	case NkMap, NkFilter, NkTake, NkDrop, NkWhile, NkSkip, NkScan, NkBatch, NkOnce:
		return 1
	case NkChain, NkZip, NkMerge, NkTurn:
		return 2
	}
	return -1
}

// numbersFit reports whether the N and the M of a node are those of its kind.
func numbersFit(n Node) bool {
	switch n.Kind {
	case NkSource:
		return within(n.N, 0, MaxSources-1) && n.M == 0
	case NkMap:
		return within(n.N, 0, Modulus-1) && within(n.M, 0, Modulus-1)
	case NkFilter:
		return within(n.N, 1, MaxCount) && within(n.M, 0, n.N-1)
	case NkTake, NkDrop:
		return within(n.N, 0, MaxCount) && n.M == 0
	case NkWhile, NkSkip:
		return within(n.N, 0, Modulus-1) && n.M == 0
	case NkBatch:
		return within(n.N, 1, MaxCount) && n.M == 0
	case NkChain, NkZip, NkMerge, NkTurn, NkScan, NkOnce:
		return n.N == 0 && n.M == 0
	}
	return false
}

// claim marks the node at as used, and reports whether it is one of the
// earlier nodes and was not used before.
func claim(earlier []bool, at int) bool {
	if !within(at, 0, len(earlier)-1) || earlier[at] {
		return false
	}
	earlier[at] = true
	return true
}

// placesFit reports whether a node has earlier nodes below it that no other
// one has, as many as its kind tells, and marks them as used.
func placesFit(n Node, earlier []bool) bool {
	switch nodesBelow(n.Kind) {
	case 0:
		return n.A == noNode && n.B == noNode
	case 1:
		return claim(earlier, n.A) && n.B == noNode
	case 2:
		return claim(earlier, n.A) && claim(earlier, n.B)
	}
	return false
}

// ValidPipe reports whether a pipe is valid.
func ValidPipe(e Pipe) bool {
	if !within(len(e.Nodes), 1, MaxNodes) {
		return false
	}
	used := make([]bool, len(e.Nodes))
	for i, n := range e.Nodes {
		if !numbersFit(n) || !placesFit(n, used[:i]) {
			return false
		}
	}
	return !slices.Contains(used[:len(used)-1], false)
}

// rest returns what stays of a sum or product.
func rest(n int) int {
	return n % Modulus
}

// mapped returns n times each item and m more.
func mapped(list []int, n, m int) []int {
	var out []int
	for _, x := range list {
		out = append(out, rest(n*x+m))
	}
	return out
}

// filtered returns the items whose rest is m when they are divided by n.
func filtered(list []int, n, m int) []int {
	var out []int
	for _, x := range list {
		if x%n == m {
			out = append(out, x)
		}
	}
	return out
}

// firstGreat returns the index of the first item that is at least n, or the
// number of items if there is none.
func firstGreat(list []int, n int) int {
	for i, x := range list {
		if x >= n {
			return i
		}
	}
	return len(list)
}

// sumOf returns the sum of a list.
func sumOf(list []int) int {
	sum := 0
	for _, x := range list {
		sum = rest(sum + x)
	}
	return sum
}

// scanned returns for each item the sum of all up to it.
func scanned(list []int) []int {
	var out []int
	sum := 0
	for _, x := range list {
		sum = rest(sum + x)
		out = append(out, sum)
	}
	return out
}

// batched returns the sums of each n items, the last one of as many as are
// left.
func batched(list []int, n int) []int {
	var out []int
	for batch := range slices.Chunk(list, n) {
		out = append(out, sumOf(batch))
	}
	return out
}

// zipped returns the sums of the items at equal places.
func zipped(a, b []int) []int {
	var out []int
	for i := range min(len(a), len(b)) {
		out = append(out, rest(a[i]+b[i]))
	}
	return out
}

// merged returns the items of both lists, always the lesser one of the first
// ones that are left.
func merged(a, b []int) []int {
	var out []int
	for len(a) > 0 && len(b) > 0 {
		if a[0] <= b[0] {
			out, a = append(out, a[0]), a[1:]
		} else {
			out, b = append(out, b[0]), b[1:]
		}
	}
	return slices.Concat(out, a, b)
}

// turned returns the items of both lists by turns.
func turned(a, b []int) []int {
	var out []int
	for i := range max(len(a), len(b)) {
		if i < len(a) {
			out = append(out, a[i])
		}
		if i < len(b) {
			out = append(out, b[i])
		}
	}
	return out
}

// listOfStem returns the list of a node over the list below it, which is
// memory of its own.
func listOfStem(n Node, list []int) []int {
	switch n.Kind {
	case NkMap:
		return mapped(list, n.N, n.M)
	case NkFilter:
		return filtered(list, n.N, n.M)
	case NkTake:
		return list[:min(n.N, len(list))]
	case NkDrop:
		return list[min(n.N, len(list)):]
	case NkWhile:
		return list[:firstGreat(list, n.N)]
	case NkSkip:
		return list[firstGreat(list, n.N):]
	case NkScan:
		return scanned(list)
	case NkBatch:
		return batched(list, n.N)
	}
	return slices.Compact(list)
}

// listOfFork returns the list of a node of a kind over the lists below it.
func listOfFork(kind int, a, b []int) []int {
	switch kind {
	case NkChain:
		return slices.Concat(a, b)
	case NkZip:
		return zipped(a, b)
	case NkMerge:
		return merged(a, b)
	}
	return turned(a, b)
}

// listOfTree returns the list of a tree, in memory of its own.
func listOfTree(t tree, src [][]int) []int {
	switch x := t.(type) {
	case leaf:
		return slices.Clone(src[x.node.N])
	case stem:
		return listOfStem(x.node, listOfTree(x.under, src))
	case fork:
		return listOfFork(x.node.Kind, listOfTree(x.a, src), listOfTree(x.b, src))
	}
	return nil
}

// ListOf returns the list of a pipe.
func ListOf(e Pipe, src [][]int) []int {
	if !ValidPipe(e) || !ValidSources(src) {
		return nil
	}
	return listOfTree(treeOf(e), src)
}

// LengthOf returns the number of items of the list of a pipe.
func LengthOf(e Pipe, src [][]int) int {
	if !ValidPipe(e) || !ValidSources(src) {
		return -1
	}
	return len(ListOf(e, src))
}

// SourcesOf returns the sources of a pipe.
func SourcesOf(e Pipe) []int {
	if !ValidPipe(e) {
		return nil
	}
	var out []int
	for _, n := range e.Nodes {
		if n.Kind == NkSource {
			out = append(out, n.N)
		}
	}
	slices.Sort(out)
	return slices.Compact(out)
}

// IsLine reports whether a pipe has no node with two nodes below.
func IsLine(e Pipe) bool {
	if !ValidPipe(e) {
		return false
	}
	for _, n := range e.Nodes {
		if nodesBelow(n.Kind) == 2 {
			return false
		}
	}
	return true
}

// DepthOf returns how deep a pipe is.
func DepthOf(e Pipe) int {
	if !ValidPipe(e) {
		return -1
	}
	return treeOf(e).depth()
}

// OrderPipe returns a pipe with its nodes in order.
func OrderPipe(e Pipe) Pipe {
	if !ValidPipe(e) {
		return Pipe{}
	}
	return pipeOf(treeOf(e))
}

// hasNode reports whether a pipe is valid, and has the node i.
func hasNode(e Pipe, i int) bool {
	return ValidPipe(e) && within(i, 0, len(e.Nodes)-1)
}

// PartOf returns the pipe of a node.
func PartOf(e Pipe, i int) Pipe {
	if !hasNode(e, i) {
		return Pipe{}
	}
	return pipeOf(treeAt(e, i))
}

// MoveSources returns a pipe with other sources.
func MoveSources(e Pipe, to []int) Pipe {
	if !ValidPipe(e) || len(to) != MaxSources || !allWithin(to, 0, MaxSources-1) {
		return Pipe{}
	}
	nodes := slices.Clone(e.Nodes)
	for i, n := range nodes {
		if n.Kind == NkSource {
			nodes[i].N = to[n.N]
		}
	}
	return Pipe{Nodes: nodes}
}

// JoinPipes returns a pipe of two pipes.
func JoinPipes(a Pipe, b Pipe, kind int) (Pipe, bool) {
	if nodesBelow(kind) != 2 || !ValidPipe(a) || !ValidPipe(b) {
		return Pipe{}, false
	}
	if len(a.Nodes)+len(b.Nodes)+1 > MaxNodes {
		return Pipe{}, false
	}
	return pipeOf(fork{Node{Kind: kind}, treeOf(a), treeOf(b)}), true
}

// PutOn returns a pipe with one more node on its end.
func PutOn(e Pipe, n Node) (Pipe, bool) {
	if !ValidPipe(e) || nodesBelow(n.Kind) != 1 || !numbersFit(n) {
		return Pipe{}, false
	}
	if len(e.Nodes)+1 > MaxNodes {
		return Pipe{}, false
	}
	n.A, n.B = len(e.Nodes)-1, noNode
	return Pipe{Nodes: append(slices.Clone(e.Nodes), n)}, true
}
