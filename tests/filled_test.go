package tests

import (
	"fmt"
	"slices"
	"strings"
	"testing"

	"loop.example/g01144/impl"
)

// Promise 19, for filled networks: they deliver all messages.

// sinkPaths are the paths of a sink, and the vectors they have so far.
type sinkPaths struct {
	paths   [][]int64
	vectors [][]int64
}

// pathOf is the number of the path with an edge; -1 if there is none.
func (s sinkPaths) pathOf(edge int64) int {
	return slices.IndexFunc(s.paths, func(path []int64) bool { return slices.Contains(path, edge) })
}

// replaced has the vector of an edge in the place of that of its path.
func (s sinkPaths) replaced(edge int64, vector []int64) [][]int64 {
	vectors := slices.Clone(s.vectors)
	if number := s.pathOf(edge); number >= 0 {
		vectors[number] = vector
	}
	return vectors
}

// filledOf tries all lists of coefficients of one edge after the other; false if there are none for some edge.
func filledOf(t *testing.T, n impl.Net, sinks []int64) (impl.Net, bool) {
	t.Helper()
	filled := netWith(n.Field, n.Messages, shape{n.Nodes, n.Edges}, constant(0))
	var all []sinkPaths
	for _, sink := range sinks {
		all = append(all, sinkPaths{wantedPaths(t, n, sink)[:n.Messages], identityWords(n.Messages)})
	}
	for i, e := range n.Edges {
		fits := func(coefs []int64) bool {
			filled.Coefs[i] = coefs
			vector := vectorOf(filled, int64(i))
			return !slices.ContainsFunc(all, func(s sinkPaths) bool {
				return determinant(n.Field, s.replaced(int64(i), vector)) == 0
			})
		}
		number := slices.IndexFunc(orderedLists(n.Field, countAtNode(n, e[0])), fits)
		if number < 0 {
			return impl.Net{}, false
		}
		vector := vectorOf(filled, int64(i))
		for k, s := range all {
			all[k].vectors = s.replaced(int64(i), vector)
		}
	}
	return filled, true
}

// mostChoices is the greatest number of lists of coefficients of an edge.
func mostChoices(n impl.Net) int64 {
	most := int64(1)
	for _, coefs := range n.Coefs {
		number := int64(1)
		for range coefs {
			number *= sizeOf(n.Field)
			number = min(number, 1<<40)
		}
		most = max(most, number)
	}
	return most
}

// checkFilling asks for the coefficients, and for what comes to the sinks then. It returns the code.
func checkFilling(t *testing.T, n impl.Net, sinks []int64) int64 {
	t.Helper()
	name := fmt.Sprint(n, " filled for ", sinks)
	for _, sink := range sinks {
		if capacityOf(n, sink) < n.Messages {
			refusedNet(t, name, impl.ErrState)(impl.FillCoefs(n, sinks))
			return impl.ErrState
		}
	}
	if mostChoices(n) > 4096 {
		refusedNet(t, name, impl.ErrLimit)(impl.FillCoefs(n, sinks))
		return impl.ErrLimit
	}
	want, found := filledOf(t, n, sinks)
	if !found {
		is(t, name+" fewer elements than sinks", true, sizeOf(n.Field) < int64(len(sinks)))
		refusedNet(t, name, impl.ErrNotFound)(impl.FillCoefs(n, sinks))
		return impl.ErrNotFound
	}
	networked(t, name, want)(impl.FillCoefs(n, sinks))
	is(t, name+" valid", true, impl.ValidNet(want))
	messages := mixedWord(n.Field, n.Messages, int64(len(n.Edges)))
	for _, sink := range sinks {
		value(t, name+" rank", n.Messages)(impl.RankAt(want, sink))
		values, _ := impl.Delivered(want, messages, sink)
		listed(t, name+" messages", messages)(impl.SolveAt(want, sink, values))
	}
	return impl.OK
}

// sinkLists are all strictly increasing lists of 1 to 4 nodes other than 0.
func sinkLists(nodes int64) [][]int64 {
	var list [][]int64
	for number := 1; number <= 4; number++ {
		for _, which := range choices(int(nodes-1), number) {
			var sinks []int64
			for _, i := range which {
				sinks = append(sinks, int64(i+1))
			}
			list = append(list, sinks)
		}
	}
	return list
}

// deliverable leaves out the lists with a sink whose capacity is too small.
func deliverable(n impl.Net, lists [][]int64) [][]int64 {
	var full []int64
	for node := int64(1); node < n.Nodes; node++ {
		if capacityOf(n, node) >= n.Messages {
			full = append(full, node)
		}
	}
	return slices.DeleteFunc(lists, func(sinks []int64) bool {
		return slices.ContainsFunc(sinks, func(sink int64) bool { return !slices.Contains(full, sink) })
	})
}

// wideShapes have several sinks with several paths, of which some have common edges.
func wideShapes() []shape {
	return []shape{
		butterfly,
		// The source and 3 or 4 nodes, and a sink for each two or three of them.
		shapeOf(7, "01 02 03 14 15 24 26 35 36"),
		shapeOf(8, "01 02 03 04 15 16 25 27 36 37 46 47"),
		shapeOf(6, "01 02 03 14 24 25 34 35 15"),
		shapeOf(6, "01 02 03 12 13 14 15 23 24 25 34 35 45"),
		shapeOf(5, "01 01 01 12 12 12 23 23 23 34 34 34"),
		shapeOf(8, "01 02 13 14 23 24 35 36 45 46 57 67"),
		shapeOf(8, "01 02 13 15 16 23 24 27 34 45 46 47"),
		shapeOf(8, "01 02 13 14 15 23 26 27 34 35 45 46 47"),
		shapeOf(6, "01 01 02 02 13 14 15 23 24 25 34 45"),
		shapeOf(7, "01 02 03 14 24 34 15 25 36 46 56"),
	}
}

// sorted has the edges in ascending order of their first nodes, as they have to be.
func (s shape) sorted() shape {
	edges := slices.Clone(s.edges)
	slices.SortStableFunc(edges, func(e, o []int64) int { return int(e[0] - o[0]) })
	return shape{s.nodes, edges}
}

// TestFilling has all lists of sinks of networks with all shapes, for one field each, and for small ones.
func TestFilling(t *testing.T) {
	counts := map[int64]int{}
	fields := allFields()
	for i, s := range slices.Concat(wideShapes(), knownShapes(), drawnShapes(60)) {
		s = s.sorted()
		for messages := int64(1); messages <= 3; messages++ {
			for k, f := range []impl.Field{fields[0], fields[1], fields[2], fields[3+i%2], fields[5+(i+int(messages))%9]} {
				n := netWith(f, messages, s, drawnFrom(f, int64(i+k)))
				lists := deliverable(n, sinkLists(n.Nodes))
				if k > 2 && len(lists) > 3 {
					lists = picked(lists, []int{0, len(lists) / 2, len(lists) - 1})
				}
				if mostChoices(n) > 4096 && len(lists) > 2 {
					lists = lists[:2]
				}
				for _, sinks := range lists {
					counts[checkFilling(t, n, sinks)]++
				}
			}
		}
	}
	is(t, "many are filled, and some have too many choices", "true true", fmt.Sprint(counts[impl.OK] > 1000, counts[impl.ErrLimit] > 5))
}

// TestFillingSmallNetworks has also sinks to which there are too few paths.
func TestFillingSmallNetworks(t *testing.T) {
	for _, n := range smallNets() {
		lists := sinkLists(n.Nodes)
		if n.Field.Degree*n.Messages > 6 {
			lists = lists[len(lists)-1:]
		}
		for _, sinks := range lists {
			checkFilling(t, n, sinks)
		}
	}
}

// TestFillingDoesNotLookAtTheCoefficients has the same result whatever they were.
func TestFillingDoesNotLookAtTheCoefficients(t *testing.T) {
	for _, f := range allFields()[:9] {
		for _, s := range wideShapes() {
			s = s.sorted()
			one := netWith(f, 2, s, constant(0))
			for _, sinks := range deliverable(one, sinkLists(s.nodes)) {
				want, code := impl.FillCoefs(one, sinks)
				for seed := range int64(2) {
					got, other := impl.FillCoefs(netWith(f, 2, s, drawnFrom(f, seed)), sinks)
					is(t, fmt.Sprint(f, s, sinks), fmt.Sprint(want, code), fmt.Sprint(got, other))
				}
			}
		}
	}
}

func TestFilledNetworksThatAreKnown(t *testing.T) {
	two := impl.Field{Degree: 1, Poly: 2}
	full, code := impl.FillCoefs(netWith(two, 2, butterfly, constant(1)), []int64{5, 6})
	is(t, "butterfly", "[[1 0] [0 1] [1] [1] [1] [1] [1 1] [1] [1]] 0", fmt.Sprint(full.Coefs, code))
	full, code = impl.FillCoefs(netWith(two, 2, butterfly, constant(1)), []int64{5})
	is(t, "butterfly with one sink", "[[1 0] [0 1] [0] [1] [1] [0] [0 1] [1] [0]] 0", fmt.Sprint(full.Coefs, code))
	// The own paths are the first ones that leave another one: 0, 2 and 0, 2, 6 and 0, 3 and 0, 2, 6, 8.
	full, code = impl.FillCoefs(netWith(two, 1, butterfly, constant(0)), []int64{3, 4, 5, 6})
	is(t, "one message", "[[1] [0] [1] [1] [0] [0] [1 0] [0] [1]] 0", fmt.Sprint(full.Coefs, code))
}

func TestSinksThatAreNone(t *testing.T) {
	for _, n := range someNets()[:60] {
		last := n.Nodes - 1
		lists := [][]int64{nil, {}, {0}, {0, last}, {last, last}, {last, 0}, {1, 2, 3, 4, 5}, {1, 2, 3, 4, 5, 6, 7}, {1, 1, 1, 1}, oddNumbers, make([]int64, 1000)}
		if last > 2 {
			lists = append(lists, []int64{last, last - 1}, []int64{1, last, last}, []int64{1, 3, 2}, []int64{2, 1, 3}, []int64{1, 1, 2})
		}
		for _, node := range noNodes(n) {
			lists = append(lists, []int64{node}, []int64{1, node}, []int64{node, 1})
		}
		for _, sinks := range lists {
			refusedNet(t, fmt.Sprint(n, " filled for ", sinks), impl.ErrRange)(impl.FillCoefs(n, sinks))
		}
	}
	n := netWith(impl.Field{Degree: 2, Poly: 7}, 1, shapeOf(8, "01 02 03 04 05 06 07"), constant(0))
	is(t, "4 sinks", impl.OK, checkFilling(t, n, []int64{2, 3, 5, 7}))
	refusedNet(t, "5 sinks", impl.ErrRange)(impl.FillCoefs(n, []int64{1, 2, 3, 5, 7}))
}

// TestManyChoices has as many lists of coefficients as there may be, and more.
func TestManyChoices(t *testing.T) {
	for _, f := range allFields() {
		for into := 1; into <= 13; into++ {
			// The edges that come behind have as many coefficients as edges come to the node 1, whether they are on a path or not.
			s := shapeOf(4, strings.Repeat("01 ", into)+"12")
			n := netWith(f, 1, s, constant(1))
			want := impl.OK
			if f.Degree*int64(into) > 12 {
				want = impl.ErrLimit
			}
			is(t, fmt.Sprint(f, into, " choices"), int64(want) == impl.ErrLimit, mostChoices(n) > 4096)
			is(t, fmt.Sprint(f, into, " choices for a sink behind them"), want, checkFilling(t, n, []int64{2}))
			is(t, fmt.Sprint(f, into, " choices for a sink ahead of them"), want, checkFilling(t, n, []int64{1}))
			// Too few paths come first, and sinks that are none ahead of this.
			is(t, fmt.Sprint(f, into, " choices and no path"), impl.ErrState, checkFilling(t, n, []int64{1, 3}))
			refusedNet(t, fmt.Sprint(f, into, " choices and no sink"), impl.ErrRange)(impl.FillCoefs(n, []int64{3, 1}))
		}
		for messages := int64(1); messages <= 3; messages++ {
			n := netWith(f, messages, shapeOf(3, "01 01 01 12"), constant(1))
			want := impl.OK
			if f.Degree*3 > 12 {
				want = impl.ErrLimit
			}
			is(t, fmt.Sprint(f, messages, " messages"), want, checkFilling(t, n, []int64{1}))
		}
	}
}

func TestSinksWithoutEnoughPaths(t *testing.T) {
	for _, f := range allFields() {
		for messages := int64(1); messages <= 3; messages++ {
			for paths := range 4 {
				n := netWith(f, messages, shapeOf(4, strings.Repeat("01 ", paths)+"02 02 02"), constant(1))
				want := int64(impl.ErrState)
				if int64(paths) >= messages {
					want = map[bool]int64{true: impl.ErrLimit, false: impl.OK}[mostChoices(n) > 4096]
				}
				for _, sinks := range [][]int64{{1}, {1, 2}} {
					is(t, fmt.Sprint(n, sinks), want, checkFilling(t, n, sinks))
				}
				is(t, fmt.Sprint(n, " and a sink without paths"), impl.ErrState, checkFilling(t, n, []int64{2, 3}))
			}
		}
	}
}

// unfilled are networks with more sinks than two elements can fill.
var unfilled = []struct {
	nodes, messages int64
	edges           string
	sinks           []int64
}{
	{8, 2, "07 03 02 02 01 05 13 26 25 47 57 56 57 56", []int64{5, 6, 7}},
	{8, 2, "07 02 01 02 03 12 26 25 35 35 45 46 57 56", []int64{5, 6, 7}},
	{7, 2, "03 05 01 02 13 12 15 25 25 26 36 45 56 56", []int64{2, 3, 5, 6}},
	{5, 2, "03 02 04 01 01 13 12 12 12 24 24 24 24 34", []int64{1, 2, 3, 4}},
	{6, 2, "03 01 05 02 05 02 05 14 24 23 35 45 45 45", []int64{2, 3, 4, 5}},
	{7, 3, "06 04 02 05 02 16 24 23 25 35 34 46 56 56", []int64{4, 5, 6}},
	{7, 3, "04 02 04 01 01 16 13 15 25 34 35 56 56 56", []int64{4, 5, 6}},
	{6, 3, "02 03 02 01 04 14 12 12 23 23 35 34 45 45", []int64{2, 3, 4, 5}},
}

// TestFieldsWithFewerElementsThanSinks has sinks that want more of an edge than there is.
func TestFieldsWithFewerElementsThanSinks(t *testing.T) {
	for _, u := range unfilled {
		for _, f := range allFields() {
			n := netWith(f, u.messages, shapeOf(u.nodes, u.edges), drawnFrom(f, 2))
			want := int64(impl.OK)
			switch {
			case mostChoices(n) > 4096:
				want = impl.ErrLimit
			case f.Degree == 1:
				want = impl.ErrNotFound
			}
			is(t, fmt.Sprint(n, u.sinks), want, checkFilling(t, n, u.sinks))
			// Two sinks are never too many.
			if want != impl.ErrLimit {
				is(t, fmt.Sprint(n, u.sinks[:2]), impl.OK, checkFilling(t, n, u.sinks[:2]))
				is(t, fmt.Sprint(n, u.sinks[1:3]), impl.OK, checkFilling(t, n, u.sinks[1:3]))
			}
		}
	}
}
