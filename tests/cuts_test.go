package tests

import (
	"fmt"
	"math"
	"slices"
	"testing"

	"loop.example/g01144/impl"
)

// Promise 18: capacities are least cuts and greatest numbers of paths, and no rank is greater.

// checkCapacity asks for the capacity to each node, for a least cut and for as many paths.
func checkCapacity(t *testing.T, n impl.Net) {
	t.Helper()
	for node := int64(1); node < n.Nodes; node++ {
		name := fmt.Sprint(n, " to ", node)
		least, cuts := leastCuts(n, node)
		value(t, name+" capacity", least)(impl.CapacityTo(n, node))
		first := slices.MinFunc(cuts, func(set, other []int64) int { return len(set) - len(other) })
		listed(t, name+" cut", first)(impl.CutTo(n, node))
		for _, set := range cuts {
			for _, inside := range first {
				is(t, name+" cut in another one", true, slices.Contains(set, inside))
			}
		}
		paths := wantedPaths(t, n, node)
		listedWords(t, name+" paths", paths)(impl.PathsTo(n, node))
		told(t, name+" are paths", true, impl.OK)(impl.ArePathsTo(n, node, paths))
		rank, code := impl.RankAt(n, node)
		is(t, name+" rank", "true 0", fmt.Sprint(rank <= least, code))
	}
}

func TestCapacities(t *testing.T) {
	for _, n := range someNets() {
		checkCapacity(t, n)
	}
}

func TestCapacitiesOfSmallNetworks(t *testing.T) {
	for _, n := range smallNets() {
		checkCapacity(t, n)
	}
}

// TestCapacitiesAreThoseOfTheEdges has the same ones for all fields, messages and coefficients.
func TestCapacitiesAreThoseOfTheEdges(t *testing.T) {
	for _, s := range knownShapes() {
		one := netWith(impl.Field{Degree: 1, Poly: 2}, 1, s, constant(0))
		for node := int64(1); node < s.nodes; node++ {
			capacity, _ := impl.CapacityTo(one, node)
			cut, _ := impl.CutTo(one, node)
			paths, _ := impl.PathsTo(one, node)
			for i, f := range allFields() {
				n := netWith(f, int64(1+i%3), s, drawnFrom(f, int64(i)))
				name := fmt.Sprint(n, " to ", node)
				value(t, name+" capacity", capacity)(impl.CapacityTo(n, node))
				listed(t, name+" cut", cut)(impl.CutTo(n, node))
				listedWords(t, name+" paths", paths)(impl.PathsTo(n, node))
			}
		}
	}
}

func TestCapacitiesThatAreKnown(t *testing.T) {
	f := impl.Field{Degree: 1, Poly: 2}
	for _, c := range []struct {
		nodes     int64
		edges     string
		node      int64
		cut       []int64
		paths     [][]int64
		otherCuts [][]int64
	}{
		{2, "", 1, []int64{0}, [][]int64{}, nil},
		{8, "", 7, []int64{0}, [][]int64{}, [][]int64{{0, 1, 2, 3, 4, 5, 6}}},
		{3, "01", 2, []int64{0, 1}, [][]int64{}, nil},
		{4, "01 12 23", 3, []int64{0}, [][]int64{{0, 1, 2}}, [][]int64{{0, 1}, {0, 1, 2}}},
		{3, "01 01 12", 2, []int64{0, 1}, [][]int64{{0, 2}}, nil},
		{3, "01 12 12", 2, []int64{0}, [][]int64{{0, 1}}, nil},
		{2, "01 01 01", 1, []int64{0}, [][]int64{{0}, {1}, {2}}, nil},
		{3, "02 01 02 12", 2, []int64{0}, [][]int64{{0}, {1, 3}, {2}}, [][]int64{{0, 1}}},
		// The first path may not go from 1 to 2.
		{4, "01 02 12 13 23", 3, []int64{0}, [][]int64{{0, 3}, {1, 4}}, [][]int64{{0, 1, 2}}},
		// It may not go from 1 to 3, though this is the first edge and the shorter way.
		{6, "01 02 13 14 23 35 45", 5, []int64{0}, [][]int64{{0, 3, 6}, {1, 4, 5}}, nil},
		{5, "01 02 12 23 24 34", 4, []int64{0}, [][]int64{{0, 2, 3, 5}, {1, 4}}, [][]int64{{0, 1, 2}, {0, 1, 2, 3}}},
	} {
		n := netWith(f, 1, shapeOf(c.nodes, c.edges), constant(0))
		name := fmt.Sprint(c.edges, " to ", c.node)
		value(t, name+" capacity", int64(len(c.paths)))(impl.CapacityTo(n, c.node))
		listed(t, name+" cut", c.cut)(impl.CutTo(n, c.node))
		listedWords(t, name+" paths", c.paths)(impl.PathsTo(n, c.node))
		for _, set := range append(c.otherCuts, c.cut) {
			value(t, fmt.Sprint(name, " size of ", set), int64(len(c.paths)))(impl.CheckCut(n, c.node, set))
		}
	}
}

func TestCheckCut(t *testing.T) {
	for _, n := range slices.Concat(someNets(), smallNets()) {
		for node := int64(1); node < n.Nodes; node++ {
			for _, set := range cutsOf(n, node) {
				value(t, fmt.Sprint(n, " cut ", set, " for ", node), sizeOfCut(n, set))(impl.CheckCut(n, node, set))
			}
		}
	}
}

// TestSetsThatAreNoCuts has all lists of up to 3 nodes, and others.
func TestSetsThatAreNoCuts(t *testing.T) {
	for i, n := range someNets() {
		if i%24 > 0 && n.Nodes > 2 {
			continue
		}
		var lists [][]int64
		listsOf(impl.Field{Degree: 3}, 3, func(set []int64) {
			lists = append(lists, slices.Clone(set), slices.Clone(set[:2]), slices.Clone(set[:1]))
		})
		for node := int64(1); node < n.Nodes; node++ {
			for _, set := range lists {
				isCut := set[0] == 0 && !slices.Contains(set, node) && slices.Max(set) < n.Nodes
				for i := range set[1:] {
					isCut = isCut && set[i] < set[i+1]
				}
				if isCut {
					value(t, fmt.Sprint(n, " cut ", set, " for ", node), sizeOfCut(n, set))(impl.CheckCut(n, node, set))
				} else {
					refused(t, fmt.Sprint(n, " no cut ", set, " for ", node), impl.ErrRange)(impl.CheckCut(n, node, set))
				}
			}
			for _, set := range [][]int64{nil, {}, {-1, 0}, {0, 1, 2, 3, 4, 5, 6, 7}, {0, 1, 2, 3, 4, 5, 6, 7, 8}, make([]int64, 1000), {0, 0}, oddNumbers} {
				refused(t, fmt.Sprint(n, " no cut ", set, " for ", node), impl.ErrRange)(impl.CheckCut(n, node, set))
			}
			for _, other := range noNodes(n) {
				refused(t, fmt.Sprint(n, " no cut with ", other), impl.ErrRange)(impl.CheckCut(n, node, []int64{0, other}))
			}
		}
	}
}

// arePaths follows each list of edges, and counts how often they are there.
func arePaths(n impl.Net, node int64, paths [][]int64) bool {
	found := map[int64]bool{}
	for _, path := range paths {
		if len(path) == 0 || n.Edges[path[0]][0] != 0 || n.Edges[path[len(path)-1]][1] != node {
			return false
		}
		for i, e := range path {
			if found[e] || i > 0 && n.Edges[path[i-1]][1] != n.Edges[e][0] {
				return false
			}
			found[e] = true
		}
	}
	return true
}

// checkPaths asks whether some lists of edges are paths.
func checkPaths(t *testing.T, n impl.Net, node int64, paths [][]int64) {
	t.Helper()
	told(t, fmt.Sprint(n, " are paths to ", node, paths), arePaths(n, node, paths), impl.OK)(impl.ArePathsTo(n, node, paths))
}

// TestAllListsOfPaths has all lists of up to 3 edges, alone and two of them together, of some networks.
func TestAllListsOfPaths(t *testing.T) {
	for _, text := range []string{"01 12 12", "01 02 12", "01 01 12", "02 12 01", "01 01 02 12"} {
		n := netWith(impl.Field{Degree: 1, Poly: 2}, 1, shapeOf(3, text), constant(0))
		if text == "02 12 01" {
			n = netWith(n.Field, 1, shapeOf(4, "01 02 13 23"), constant(0))
		}
		lists := [][]int64{{}}
		for begin := 0; begin < len(lists); begin++ {
			for e := range n.Edges {
				if len(lists[begin]) < 3 {
					lists = append(lists, append(slices.Clone(lists[begin]), int64(e)))
				}
			}
		}
		for node := int64(1); node < n.Nodes; node++ {
			checkPaths(t, n, node, nil)
			for _, path := range lists {
				checkPaths(t, n, node, [][]int64{path})
				for _, other := range lists {
					checkPaths(t, n, node, [][]int64{path, other})
				}
			}
		}
	}
}

// TestListsOfPaths has paths that are found, in other orders, with some left out, and with changes.
func TestListsOfPaths(t *testing.T) {
	for i, n := range someNets() {
		for node := int64(1); node < n.Nodes; node++ {
			all := pathsOf(n, node)
			paths, _ := firstApart(all, capacityOf(n, node))
			checkPaths(t, n, node, paths)
			slices.Reverse(paths)
			checkPaths(t, n, node, paths)
			checkPaths(t, n, node, append(slices.Clone(paths), []int64{}))
			checkPaths(t, n, node, nil)
			if len(paths) == 0 {
				continue
			}
			first := paths[0]
			checkPaths(t, n, node, paths[1:])
			checkPaths(t, n, node, append(slices.Clone(paths), first))
			checkPaths(t, n, node, append(slices.Clone(paths), all[i%len(all)]))
			checkPaths(t, n, node, [][]int64{all[i%len(all)], all[i*7%len(all)]})
			checkPaths(t, n, node, [][]int64{first[1:]})
			checkPaths(t, n, node, [][]int64{first[:len(first)-1]})
			checkPaths(t, n, node, [][]int64{append(slices.Clone(first), first[0])})
			checkPaths(t, n, node, [][]int64{append(slices.Clone(first), first...)})
			checkPaths(t, n, node, [][]int64{slices.Concat(first[:1], first)})
			for other := int64(1); other < n.Nodes; other++ {
				checkPaths(t, n, other, paths)
			}
		}
	}
}

func TestNumbersThatAreNoEdges(t *testing.T) {
	for _, n := range someNets()[:80] {
		number := int64(len(n.Edges))
		for node := int64(1); node < n.Nodes; node++ {
			paths, _ := firstApart(pathsOf(n, node), capacityOf(n, node))
			for _, e := range []int64{-1, number, number + 1, 14, 64, 1 << 32, math.MaxInt64, math.MinInt64} {
				// Also behind lists that are no paths, the range of all numbers comes first.
				for _, list := range [][][]int64{{{e}}, append(slices.Clone(paths), []int64{e}), append([][]int64{{e}}, paths...), {{}, {e}}, {{}, {}, {e}, {}}} {
					told(t, fmt.Sprint(n, " no edge in ", list), false, impl.ErrRange)(impl.ArePathsTo(n, node, list))
				}
				for _, path := range paths {
					list := [][]int64{append(slices.Clone(path), e)}
					told(t, fmt.Sprint(n, " no edge in ", list), false, impl.ErrRange)(impl.ArePathsTo(n, node, list))
					list = append(list, path, path)
					told(t, fmt.Sprint(n, " no edge in ", list), false, impl.ErrRange)(impl.ArePathsTo(n, node, list))
				}
			}
		}
	}
}
