package tests

import (
	"fmt"
	"math"
	"slices"
	"testing"

	"loop.example/g01144/impl"
)

// Promises 18 to 20, for what networks are.

// noNets are no networks over a field, each for a reason of its own.
func noNets(f impl.Field) []impl.Net {
	good := netWith(f, 2, butterfly, drawnFrom(f, 4))
	var list []impl.Net
	add := func(change func(n *impl.Net)) {
		list = append(list, changedNet(good, change))
	}
	for _, nodes := range []int64{0, 1, 9, -2, 1 << 32, math.MaxInt64, math.MinInt64} {
		add(func(n *impl.Net) { n.Nodes = nodes })
		list = append(list, impl.Net{Field: f, Nodes: nodes, Messages: 1})
	}
	for _, messages := range []int64{0, 4, -1, 1 << 32, math.MaxInt64, math.MinInt64} {
		add(func(n *impl.Net) { n.Messages = messages })
		list = append(list, impl.Net{Field: f, Nodes: 2, Messages: messages})
	}
	// The edges and the coefficients have to fit.
	add(func(n *impl.Net) { n.Nodes = 6 })
	add(func(n *impl.Net) { n.Messages = 1 })
	add(func(n *impl.Net) { n.Messages = 3 })
	// More edges than there can be, and their coefficients.
	for _, number := range []int{15, 16, 100} {
		list = append(list, netWith(f, 1, shape{2, slices.Repeat([][]int64{{0, 1}}, number)}, constant(1)))
	}
	for _, nodes := range [][]int64{nil, {}, {1}, {1, 3, 3}, {1, 3, 5}, {3, 1}, {1, 1}, {0, 0}, {1, 7}, {1, 8}, {-1, 3}, {1, -1}, {math.MinInt64, 3}, {1, math.MaxInt64}, {3, 2}} {
		add(func(n *impl.Net) { n.Edges[2] = nodes })
	}
	// The first nodes are not in ascending order.
	for _, nodes := range [][]int64{{0, 3}, {2, 3}, {6, 7}} {
		add(func(n *impl.Net) { n.Edges[3] = nodes })
	}
	add(func(n *impl.Net) { slices.Reverse(n.Edges) })
	list = append(list, netWith(f, 1, shapeOf(4, "12 01"), constant(1)), netWith(f, 1, shapeOf(4, "23 13"), constant(1)), netWith(f, 1, shapeOf(4, "01 23 12"), constant(1)))
	// One edge, whose coefficients are as many as its first node would have.
	for _, nodes := range [][]int64{{1, 1}, {1, 0}, {2, 1}, {2, 2}, {1, 3}, {2, 3}, {3, 4}, {-1, 1}, {-1, 0}, {1, -1}, {math.MinInt64, 2}, {1, math.MaxInt64}} {
		list = append(list, impl.Net{Field: f, Nodes: 3, Messages: 1, Edges: [][]int64{nodes}, Coefs: [][]int64{{}}})
	}
	for _, nodes := range [][]int64{{0}, {0, 0}, {0, 3}, {0, 8}, {0, -1}, {0, 1, 2}, {0, math.MaxInt64}} {
		list = append(list, impl.Net{Field: f, Nodes: 3, Messages: 1, Edges: [][]int64{nodes}, Coefs: [][]int64{{1}}})
	}
	// Other numbers of coefficients.
	for i := range good.Edges {
		add(func(n *impl.Net) { n.Coefs[i] = append(n.Coefs[i], 0) })
		add(func(n *impl.Net) { n.Coefs[i] = n.Coefs[i][1:] })
		add(func(n *impl.Net) { n.Coefs[i] = nil })
		add(func(n *impl.Net) { n.Coefs[i] = make([]int64, 100) })
		for k, a := range noElements(f) {
			add(func(n *impl.Net) { n.Coefs[i][k%len(n.Coefs[i])] = a })
		}
	}
	add(func(n *impl.Net) { n.Coefs = nil })
	add(func(n *impl.Net) { n.Coefs = n.Coefs[:8] })
	add(func(n *impl.Net) { n.Coefs = append(n.Coefs, []int64{}) })
	add(func(n *impl.Net) { n.Coefs = append(n.Coefs, []int64{0}) })
	add(func(n *impl.Net) { n.Edges = nil })
	add(func(n *impl.Net) { n.Edges = n.Edges[:8] })
	add(func(n *impl.Net) { n.Edges = append(n.Edges, []int64{5, 6}) })
	// A node that has nothing has no coefficients.
	list = append(list, impl.Net{Field: f, Nodes: 3, Messages: 1, Edges: [][]int64{{1, 2}}, Coefs: [][]int64{{0}}})
	list = append(list, impl.Net{Field: f, Nodes: 3, Messages: 1, Edges: [][]int64{{1, 2}, {1, 2}}, Coefs: [][]int64{{}, {1}}})
	return list
}

// netsOfNoFields would be networks, if they had a field.
func netsOfNoFields() []impl.Net {
	var list []impl.Net
	for _, f := range noFields {
		list = append(list, impl.Net{Field: f, Nodes: 2, Messages: 1}, netWith(f, 2, butterfly, constant(0)), netWith(f, 1, shapeOf(2, "01"), constant(1)))
	}
	return list
}

// allNoNets are no networks over any field.
func allNoNets() []impl.Net {
	list := append(netsOfNoFields(), impl.Net{})
	for _, f := range allFields() {
		list = append(list, noNets(f)...)
	}
	return list
}

func TestValidNet(t *testing.T) {
	for _, n := range slices.Concat(someNets(), smallNets()) {
		is(t, fmt.Sprint("ValidNet ", n), true, impl.ValidNet(n))
	}
	for _, n := range allNoNets() {
		is(t, fmt.Sprint("ValidNet ", n), false, impl.ValidNet(n))
	}
}

// TestValidNetsOfAllKinds has each number of nodes, messages and edges, and each element as a coefficient.
func TestValidNetsOfAllKinds(t *testing.T) {
	for _, f := range allFields() {
		for nodes := int64(2); nodes <= 8; nodes++ {
			for messages := int64(1); messages <= 3; messages++ {
				for number := range 15 {
					s := shape{nodes, slices.Repeat([][]int64{{0, nodes - 1}}, number)}
					n := netWith(f, messages, s, drawnFrom(f, int64(number)))
					is(t, fmt.Sprint("ValidNet ", n), true, impl.ValidNet(n))
				}
			}
		}
		for a := range sizeOf(f) {
			is(t, fmt.Sprint("ValidNet ", f, a), true, impl.ValidNet(netWith(f, 3, butterfly, constant(a))))
		}
	}
}

func TestSameNet(t *testing.T) {
	list := slices.Concat(someNets()[:30], noNets(impl.Field{Degree: 2, Poly: 7})[:80], netsOfNoFields()[:20])
	for i, n := range list {
		is(t, fmt.Sprint("same ", n), true, impl.SameNet(n, copiedNet(n)))
		for k, o := range list {
			is(t, fmt.Sprint("same ", n, o), fmt.Sprint(n) == fmt.Sprint(o), impl.SameNet(n, o))
			is(t, fmt.Sprint("same in turn ", i, k), impl.SameNet(n, o), impl.SameNet(o, n))
		}
	}
	n := netWith(impl.Field{Degree: 3, Poly: 11}, 2, butterfly, constant(3))
	for i, change := range []func(o *impl.Net){
		func(o *impl.Net) { o.Field.Poly = 13 },
		func(o *impl.Net) { o.Field.Degree = 4 },
		func(o *impl.Net) { o.Nodes = 8 },
		func(o *impl.Net) { o.Messages = 3 },
		func(o *impl.Net) { o.Edges[8][1] = 5 },
		func(o *impl.Net) { o.Edges[0][0] = 1 },
		func(o *impl.Net) { o.Edges = o.Edges[:8] },
		func(o *impl.Net) { o.Edges[3] = o.Edges[3][:1] },
		func(o *impl.Net) { o.Edges[1], o.Edges[0] = o.Edges[0], o.Edges[1] },
		func(o *impl.Net) { o.Coefs[6][1] = 2 },
		func(o *impl.Net) { o.Coefs[7] = nil },
		func(o *impl.Net) { o.Coefs = o.Coefs[:8] },
		func(o *impl.Net) { o.Coefs = append(o.Coefs, nil) },
	} {
		o := changedNet(n, change)
		is(t, fmt.Sprint("not same ", i), "false false", fmt.Sprint(impl.SameNet(n, o), impl.SameNet(o, n)))
	}
}

func TestEdgesInto(t *testing.T) {
	for _, n := range slices.Concat(someNets(), smallNets()) {
		for node := range n.Nodes {
			listed(t, fmt.Sprint("edges into ", n, node), intoOf(n, node))(impl.EdgesInto(n, node))
		}
	}
}

// askAt calls everything that is asked about a node of a network, with other arguments that fit if the network and the node do, and expects an error of all.
func askAt(t *testing.T, n impl.Net, node int64, want int64) {
	t.Helper()
	name := fmt.Sprint("at ", node, " of ", n, " ")
	messages, errors := make([]int64, max(0, min(n.Messages, 10))), make([]int64, len(n.Edges))
	values := make([]int64, len(intoOf(n, node)))
	refusedList(t, name+"EdgesInto", want)(impl.EdgesInto(n, node))
	refused(t, name+"RankAt", want)(impl.RankAt(n, node))
	refusedList(t, name+"Delivered", want)(impl.Delivered(n, messages, node))
	refusedList(t, name+"SolveAt", want)(impl.SolveAt(n, node, values))
	refusedWords(t, name+"ErrorRows", want)(impl.ErrorRows(n, node))
	refusedList(t, name+"DeliveredWith", want)(impl.DeliveredWith(n, messages, errors, node))
	askTo(t, n, node, want)
}

// askTo calls everything that is asked about a node other than 0.
func askTo(t *testing.T, n impl.Net, node int64, want int64) {
	t.Helper()
	name := fmt.Sprint("to ", node, " of ", n, " ")
	f := impl.Field{Degree: 3, Poly: 11}
	g := impl.Gabidulin{Field: f, Points: []int64{1, 2, 4}, Dimension: 1}
	if impl.ValidNet(n) {
		g.Field, g.Points = n.Field, []int64{1, 2, 4}[:min(n.Messages, n.Field.Degree)]
	}
	refused(t, name+"CapacityTo", want)(impl.CapacityTo(n, node))
	refusedList(t, name+"CutTo", want)(impl.CutTo(n, node))
	refused(t, name+"CheckCut", want)(impl.CheckCut(n, node, []int64{0}))
	refusedWords(t, name+"PathsTo", want)(impl.PathsTo(n, node))
	told(t, name+"ArePathsTo", false, want)(impl.ArePathsTo(n, node, nil))
	refusedMatrix(t, name+"BitMatrix", want)(impl.BitMatrix(n, node))
	refusedList(t, name+"DecodeAt", want)(impl.DecodeAt(n, node, g, make([]int64, len(intoOf(n, node)))))
}

func TestNodesThatAreNone(t *testing.T) {
	for _, n := range someNets()[:60] {
		askTo(t, n, 0, impl.ErrRange)
		for _, node := range noNodes(n) {
			askAt(t, n, node, impl.ErrRange)
		}
	}
}

func TestNetworksThatAreNone(t *testing.T) {
	for _, n := range allNoNets() {
		n.Edges = slices.DeleteFunc(slices.Clone(n.Edges), func(e []int64) bool { return len(e) < 2 })
		if impl.ValidNet(n) {
			continue
		}
		for _, node := range []int64{1, 0, -1, math.MaxInt64} {
			askAt(t, n, node, impl.ErrInvalid)
		}
		refusedWords(t, fmt.Sprint("EdgeVectors ", n), impl.ErrInvalid)(impl.EdgeVectors(n))
		for _, sinks := range [][]int64{{1}, nil, {0}, {2, 1}} {
			refusedNet(t, fmt.Sprint("FillCoefs ", n, sinks), impl.ErrInvalid)(impl.FillCoefs(n, sinks))
		}
	}
}

// TestNetworksThatAreNoneBehindOtherErrors has other arguments that are wrong as well: what is not valid comes first.
func TestNetworksThatAreNoneBehindOtherErrors(t *testing.T) {
	bad, good := impl.Gabidulin{}, impl.Gabidulin{Field: impl.Field{Degree: 2, Poly: 7}, Points: []int64{1, 2}, Dimension: 1}
	for _, n := range append(noNets(impl.Field{Degree: 2, Poly: 7}), netsOfNoFields()...) {
		name := fmt.Sprint("no network ", n)
		for _, list := range [][]int64{nil, {-1}, oddNumbers} {
			refused(t, name+" CheckCut", impl.ErrInvalid)(impl.CheckCut(n, 1, list))
			told(t, name+" ArePathsTo", false, impl.ErrInvalid)(impl.ArePathsTo(n, 1, [][]int64{list}))
			refusedList(t, name+" Delivered", impl.ErrInvalid)(impl.Delivered(n, list, 1))
			refusedList(t, name+" SolveAt", impl.ErrInvalid)(impl.SolveAt(n, 1, list))
			refusedList(t, name+" DeliveredWith", impl.ErrInvalid)(impl.DeliveredWith(n, list, list, 1))
			refusedNet(t, name+" FillCoefs", impl.ErrInvalid)(impl.FillCoefs(n, list))
			refusedList(t, name+" DecodeAt", impl.ErrInvalid)(impl.DecodeAt(n, 1, good, list))
			refusedList(t, name+" DecodeAt", impl.ErrInvalid)(impl.DecodeAt(n, 1, bad, list))
		}
	}
}

func TestExampleOfChapter7(t *testing.T) {
	f, _ := impl.FieldOf(1)
	n := netWith(f, 2, butterfly, constant(0))
	for _, node := range []int64{5, 6} {
		value(t, "capacity", 2)(impl.CapacityTo(n, node))
	}
	listedWords(t, "paths", [][]int64{{0, 3}, {1, 4, 6, 7}})(impl.PathsTo(n, 5))
	full, code := impl.FillCoefs(n, []int64{5, 6})
	is(t, "filled", "[1 0] [0 1] [1 1] 0", fmt.Sprint(full.Coefs[0], full.Coefs[1], full.Coefs[6], code))
}
