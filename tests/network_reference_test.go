package tests

import (
	"fmt"
	"math"
	"slices"
	"strings"
	"testing"

	"loop.example/g01144/impl"
)

// What the tests of chapter 7 hold the program against: lists of all paths and of all cuts, sums over all ways that an element can go, and determinants.

// lot gives numbers that look as if they had been drawn.
type lot int64

func (l *lot) below(n int64) int64 {
	*l = (*l*1103515245 + 12345) % (1 << 31)
	return int64(*l>>12) % n
}

// shape is a network without field, messages and coefficients.
type shape struct {
	nodes int64
	edges [][]int64
}

// shapeOf reads edges that are written as two digits each.
func shapeOf(nodes int64, text string) shape {
	s := shape{nodes: nodes}
	for _, e := range strings.Fields(text) {
		s.edges = append(s.edges, []int64{int64(e[0] - '0'), int64(e[1] - '0')})
	}
	return s
}

// butterfly is the network of the example.
var butterfly = shapeOf(7, "01 02 13 15 23 26 34 45 46")

// knownShapes have the edge cases that the document names.
func knownShapes() []shape {
	return []shape{
		butterfly,
		shapeOf(2, ""),
		shapeOf(8, ""),
		shapeOf(2, "01"),
		shapeOf(8, "07"),
		shapeOf(8, "67"),
		shapeOf(8, "12 23 34 45 56 67"),
		shapeOf(2, strings.Repeat("01 ", 14)),
		shapeOf(3, "01 01 01 02 12 12"),
		shapeOf(3, "02 01 02 01 12 12"),
		shapeOf(3, "01 12 12 12"),
		shapeOf(3, "01 01 01 12"),
		// Two ways at each step.
		shapeOf(8, "01 01 12 12 23 23 34 34 45 45 56 56 67 67"),
		// As many edges into a node as there can be, one of them from the source.
		shapeOf(3, strings.Repeat("01 ", 13)+"12"),
		shapeOf(3, "01 "+strings.Repeat("12 ", 13)),
		shapeOf(8, "01 02 03 04 05 06 07 17 27 37 47 57 67"),
		// All edges of 5 nodes, and all but one of 6.
		shapeOf(5, "01 02 03 04 12 13 14 23 24 34"),
		shapeOf(6, "01 02 03 04 05 12 13 14 15 23 24 25 34 35"),
		shapeOf(6, "05 04 03 02 01 15 14 13 12 25 24 23 35 45"),
		// The first path, if it were taken as early or as short as it can be, would leave no room for the others.
		shapeOf(4, "01 02 12 13 23"),
		shapeOf(6, "01 02 14 13 25 23 34 35 45"),
		shapeOf(5, "01 02 03 12 14 23 24 34"),
		shapeOf(6, "01 02 13 14 24 24 35 45"),
		shapeOf(8, "01 02 03 14 15 24 26 35 36 47 57 67"),
		// Nodes without edges into them, and without edges out of them.
		shapeOf(6, "01 02 15 24 34 35 45"),
		shapeOf(7, "03 13 13 24 25 36 46"),
		// Several least cuts.
		shapeOf(5, "01 01 12 12 23 23 34 34"),
		shapeOf(6, "01 02 13 23 34 35 45"),
	}
}

// drawnShapes have any numbers of nodes and edges, most of them edges that do not lead far.
func drawnShapes(number int64) []shape {
	var list []shape
	for seed := range number {
		draw := lot(seed*77 + 5)
		s := shape{nodes: 2 + draw.below(7)}
		for range draw.below(8) + draw.below(8) {
			from := draw.below(s.nodes - 1)
			s.edges = append(s.edges, []int64{from, from + 1 + min(draw.below(s.nodes-1-from), draw.below(8))})
		}
		slices.SortStableFunc(s.edges, func(e, o []int64) int { return int(e[0] - o[0]) })
		list = append(list, s)
	}
	return list
}

// smallShapes are all with so many nodes, and with at most so many edges.
func smallShapes(nodes int64, most int) []shape {
	list := []shape{{nodes: nodes}}
	for begin := 0; begin < len(list); begin++ {
		edges := list[begin].edges
		least := int64(0)
		if len(edges) > 0 {
			least = edges[len(edges)-1][0]
		}
		for from := least; from < nodes && len(edges) < most; from++ {
			for to := from + 1; to < nodes; to++ {
				list = append(list, shape{nodes: nodes, edges: append(slices.Clone(edges), []int64{from, to})})
			}
		}
	}
	return list
}

// intoOf are the edges into a node.
func intoOf(n impl.Net, node int64) []int64 {
	list := []int64{}
	for i, e := range n.Edges {
		if e[1] == node {
			list = append(list, int64(i))
		}
	}
	return list
}

// countAtNode is the number of elements that a node has.
func countAtNode(n impl.Net, node int64) int {
	if node == 0 {
		return int(n.Messages)
	}
	return len(intoOf(n, node))
}

// netWith has coefficients that fill returns.
func netWith(f impl.Field, messages int64, s shape, fill func() int64) impl.Net {
	n := impl.Net{Field: f, Nodes: s.nodes, Messages: messages, Edges: s.edges, Coefs: [][]int64{}}
	for _, e := range s.edges {
		coefs := []int64{}
		for range countAtNode(n, e[0]) {
			coefs = append(coefs, fill())
		}
		n.Coefs = append(n.Coefs, coefs)
	}
	return n
}

// constant fills with one element.
func constant(a int64) func() int64 {
	return func() int64 { return a }
}

// drawnFrom fills with elements that are drawn, 0 more often than others.
func drawnFrom(f impl.Field, seed int64) func() int64 {
	draw := lot(seed*31 + 3)
	return func() int64 {
		if draw.below(4) == 0 {
			return 0
		}
		return draw.below(sizeOf(f))
	}
}

// netsOf have all fields and numbers of messages in turns, and coefficients that are drawn, or now and then all 0 or all 1.
func netsOf(shapes []shape) []impl.Net {
	var list []impl.Net
	fields := allFields()
	for i, s := range shapes {
		f, messages := fields[i%len(fields)], int64(1+(i+i/3)%3)
		fill := drawnFrom(f, int64(i))
		if i%11 < 2 {
			fill = constant(int64(i % 11))
		}
		list = append(list, netWith(f, messages, s, fill))
	}
	return list
}

// someNets are networks of all kinds.
func someNets() []impl.Net {
	return netsOf(slices.Concat(knownShapes(), drawnShapes(200)))
}

// smallNets are networks with all small shapes.
func smallNets() []impl.Net {
	return netsOf(slices.Concat(smallShapes(2, 4), smallShapes(3, 4), smallShapes(4, 4)))
}

// pathsOf are all paths to a node, in the order of lists.
func pathsOf(n impl.Net, node int64) [][]int64 {
	var list [][]int64
	var walk func(at int64, path []int64)
	walk = func(at int64, path []int64) {
		if at == node {
			list = append(list, path)
		}
		for i, e := range n.Edges {
			if e[0] == at && at != node {
				walk(e[1], append(slices.Clone(path), int64(i)))
			}
		}
	}
	walk(0, nil)
	slices.SortFunc(list, slices.Compare)
	return list
}

// firstApart are, of a list of paths, the first ones of which no two have a common edge, so many of them.
func firstApart(paths [][]int64, number int64) ([][]int64, bool) {
	if number == 0 {
		return [][]int64{}, true
	}
	for i, path := range paths {
		apart := slices.DeleteFunc(slices.Clone(paths[i+1:]), func(other []int64) bool {
			return slices.ContainsFunc(other, func(e int64) bool { return slices.Contains(path, e) })
		})
		if others, found := firstApart(apart, number-1); found {
			return append([][]int64{path}, others...), true
		}
	}
	return nil, false
}

// cutsOf are all cuts for a node.
func cutsOf(n impl.Net, node int64) [][]int64 {
	var list [][]int64
	for number := range int64(1) << n.Nodes {
		var set []int64
		for inside := range n.Nodes {
			if number>>inside&1 == 1 {
				set = append(set, inside)
			}
		}
		if slices.Contains(set, 0) && !slices.Contains(set, node) {
			list = append(list, set)
		}
	}
	return list
}

// sizeOfCut counts the edges that lead out.
func sizeOfCut(n impl.Net, set []int64) int64 {
	size := int64(0)
	for _, e := range n.Edges {
		if slices.Contains(set, e[0]) && !slices.Contains(set, e[1]) {
			size++
		}
	}
	return size
}

// leastCuts are all cuts for a node with the least size.
func leastCuts(n impl.Net, node int64) (int64, [][]int64) {
	least, list := int64(math.MaxInt64), [][]int64(nil)
	for _, set := range cutsOf(n, node) {
		size := sizeOfCut(n, set)
		if size < least {
			least, list = size, nil
		}
		if size == least {
			list = append(list, set)
		}
	}
	return least, list
}

// capacityOf is the size of the least cuts.
func capacityOf(n impl.Net, node int64) int64 {
	least, _ := leastCuts(n, node)
	return least
}

// wantedPaths are the first paths to a node, as many as there are edges in a least cut.
func wantedPaths(t *testing.T, n impl.Net, node int64) [][]int64 {
	t.Helper()
	paths, found := firstApart(pathsOf(n, node), capacityOf(n, node))
	is(t, fmt.Sprint("as many paths as edges in a cut ", n, node), true, found)
	return paths
}

// gain is what an element on one edge becomes on another one, on all ways together.
func gain(n impl.Net, from, to int64) int64 {
	if from == to {
		return 1
	}
	sum := int64(0)
	if begin := n.Edges[to][0]; begin > 0 {
		for place, before := range intoOf(n, begin) {
			sum ^= times(n.Field, gain(n, from, before), n.Coefs[to][place])
		}
	}
	return sum
}

// gainsInto are the gains of an edge on all edges into a node.
func gainsInto(n impl.Net, edge, node int64) []int64 {
	list := []int64{}
	for _, end := range intoOf(n, node) {
		list = append(list, gain(n, edge, end))
	}
	return list
}

// vectorOf adds the coefficients of the edges that begin at the source, each multiplied by its gain.
func vectorOf(n impl.Net, edge int64) []int64 {
	vector := make([]int64, n.Messages)
	for i, e := range n.Edges {
		if e[0] == 0 {
			vector = sumOfWords(vector, multipleOfWord(n.Field, gain(n, int64(i), edge), n.Coefs[i]))
		}
	}
	return vector
}

// vectorsInto are the vectors of all edges into a node; for the node 0, those of the messages.
func vectorsInto(n impl.Net, node int64) [][]int64 {
	if node == 0 {
		return identityWords(n.Messages)
	}
	list := [][]int64{}
	for _, edge := range intoOf(n, node) {
		list = append(list, vectorOf(n, edge))
	}
	return list
}

// identityWords have a 1 at one place each.
func identityWords(length int64) [][]int64 {
	var list [][]int64
	for place := range length {
		w := make([]int64, length)
		w[place] = 1
		list = append(list, w)
	}
	return list
}

// valuesAt are what comes to a node, as its vectors and the gains of errors tell.
func valuesAt(n impl.Net, messages, errors []int64, node int64) []int64 {
	values := []int64{}
	for _, vector := range vectorsInto(n, node) {
		values = append(values, productOfWords(n.Field, vector, messages))
	}
	for i, a := range errors {
		if node > 0 && a != 0 {
			values = sumOfWords(values, multipleOfWord(n.Field, a, gainsInto(n, int64(i), node)))
		}
	}
	return values
}

// determinant goes along the first row; signs make no difference here.
func determinant(f impl.Field, rows [][]int64) int64 {
	if len(rows) == 0 {
		return 1
	}
	sum := int64(0)
	for column, a := range rows[0] {
		sum ^= times(f, a, determinant(f, without(rows, 0, column)))
	}
	return sum
}

// without leaves out a row and a column.
func without(rows [][]int64, row, column int) [][]int64 {
	var rest [][]int64
	for i, r := range rows {
		if i != row {
			rest = append(rest, slices.Delete(slices.Clone(r), column, column+1))
		}
	}
	return rest
}

// choices are all strictly increasing lists of so many numbers below n, in the order of lists.
func choices(n, number int) [][]int {
	if number == 0 {
		return [][]int{{}}
	}
	var list [][]int
	for _, begin := range choices(n, number-1) {
		least := 0
		if len(begin) > 0 {
			least = begin[len(begin)-1] + 1
		}
		for i := least; i < n; i++ {
			list = append(list, append(slices.Clone(begin), i))
		}
	}
	return list
}

// picked are the things of a list with some indices.
func picked[T any](list []T, indices []int) []T {
	var some []T
	for _, i := range indices {
		some = append(some, list[i])
	}
	return some
}

// rankByMinors is the greatest size of a determinant, of some rows and columns, that is not 0.
func rankByMinors(f impl.Field, rows [][]int64, length int64) int64 {
	for size := min(len(rows), int(length)); size > 0; size-- {
		for _, which := range choices(len(rows), size) {
			for _, columns := range choices(int(length), size) {
				var minor [][]int64
				for _, r := range picked(rows, which) {
					minor = append(minor, picked(r, columns))
				}
				if determinant(f, minor) != 0 {
					return int64(size)
				}
			}
		}
	}
	return 0
}

// rankOfNode is the rank of what a node has.
func rankOfNode(n impl.Net, node int64) int64 {
	return rankByMinors(n.Field, vectorsInto(n, node), n.Messages)
}

// copiedNet is an equal one in other memory.
func copiedNet(n impl.Net) impl.Net {
	n.Edges, n.Coefs = slices.Clone(n.Edges), slices.Clone(n.Coefs)
	for i, e := range n.Edges {
		n.Edges[i] = slices.Clone(e)
	}
	for i, coefs := range n.Coefs {
		n.Coefs[i] = slices.Clone(coefs)
	}
	return n
}

// changedNet is an equal one in other memory, but for one change.
func changedNet(n impl.Net, change func(n *impl.Net)) impl.Net {
	n = copiedNet(n)
	change(&n)
	return n
}

// noNodes are numbers that are no nodes of a network.
func noNodes(n impl.Net) []int64 {
	return []int64{-1, n.Nodes, n.Nodes + 1, 8, 9, 64, 1 << 32, math.MaxInt64, math.MinInt64}
}

// networked asks for a network and OK.
func networked(t *testing.T, name string, want impl.Net) func(got impl.Net, code int64) {
	return func(got impl.Net, code int64) {
		t.Helper()
		is(t, name, fmt.Sprint(want, impl.OK), fmt.Sprint(got, code))
	}
}

// refusedNet asks for an error and no network.
func refusedNet(t *testing.T, name string, want int64) func(got impl.Net, code int64) {
	return func(got impl.Net, code int64) {
		t.Helper()
		is(t, name, fmt.Sprint(impl.Net{}, want), fmt.Sprint(got, code))
	}
}
