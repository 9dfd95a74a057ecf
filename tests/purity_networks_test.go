package tests

import (
	"fmt"
	"runtime"
	"slices"
	"strings"
	"sync"
	"testing"

	"loop.example/g01144/impl"
)

// Promise 1 for chapter 7.

// netAsked are further arguments of the functions of chapter 7.
type netAsked struct {
	node                                 int64
	set, messages, errors, values, sinks []int64
	paths                                [][]int64
	g                                    impl.Gabidulin
}

// netAnswers has everything that chapter 7 answers for some networks, as text.
func netAnswers(n, o impl.Net, a netAsked) string {
	text := fmt.Sprintln(impl.ValidNet(n), impl.SameNet(n, o))
	text += fmt.Sprintln(impl.EdgesInto(n, a.node))
	text += fmt.Sprintln(impl.CapacityTo(n, a.node))
	text += fmt.Sprintln(impl.CutTo(n, a.node))
	text += fmt.Sprintln(impl.CheckCut(n, a.node, a.set))
	text += fmt.Sprintln(impl.PathsTo(n, a.node))
	text += fmt.Sprintln(impl.ArePathsTo(n, a.node, a.paths))
	text += fmt.Sprintln(impl.EdgeVectors(n))
	text += fmt.Sprintln(impl.RankAt(n, a.node))
	text += fmt.Sprintln(impl.Delivered(n, a.messages, a.node))
	text += fmt.Sprintln(impl.SolveAt(n, a.node, a.values))
	text += fmt.Sprintln(impl.ErrorRows(n, a.node))
	text += fmt.Sprintln(impl.DeliveredWith(n, a.messages, a.errors, a.node))
	text += fmt.Sprintln(impl.FillCoefs(n, a.sinks))
	text += fmt.Sprintln(impl.BitMatrix(n, a.node))
	text += fmt.Sprintln(impl.DecodeAt(n, a.node, a.g, a.values))
	return text
}

// fitting are arguments that fit a network and a node of it, but for the Gabidulin code, which may have too few points.
func fitting(n impl.Net, node int64) netAsked {
	a := netAsked{
		node:     node,
		set:      []int64{0},
		messages: mixedWord(n.Field, n.Messages, node),
		errors:   mixedErrors(n)[1],
		values:   mixedWord(n.Field, int64(countAtNode(n, node)), 7),
		sinks:    []int64{max(node, 1)},
		g:        impl.Gabidulin{Field: n.Field, Points: []int64{1, 2, 4}[:min(n.Messages, n.Field.Degree)], Dimension: 1},
	}
	if node > 0 {
		a.paths, _ = firstApart(pathsOf(n, node), capacityOf(n, node))
	}
	return a
}

// oddNets are networks of any numbers, and valid ones.
func oddNets() []impl.Net {
	list := slices.Concat(someNets()[:70], allNoNets()[:400])
	for i, number := range oddNumbers {
		other := oddNumbers[(i*7+2)%len(oddNumbers)]
		f := impl.Field{Degree: 2, Poly: 7}
		good := netWith(f, 2, butterfly, constant(1))
		list = append(list,
			changedNet(good, func(n *impl.Net) { n.Nodes = number }),
			changedNet(good, func(n *impl.Net) { n.Messages = number }),
			changedNet(good, func(n *impl.Net) { n.Edges[i%9] = []int64{number, other} }),
			changedNet(good, func(n *impl.Net) { n.Edges[i%9] = oddNumbers }),
			changedNet(good, func(n *impl.Net) { n.Coefs[i%9] = []int64{number, other} }),
			changedNet(good, func(n *impl.Net) { n.Field = impl.Field{Degree: number, Poly: other} }),
			impl.Net{Field: f, Nodes: number, Messages: other, Edges: [][]int64{oddNumbers}, Coefs: [][]int64{oddNumbers}},
		)
	}
	return list
}

func TestEveryCallWithNetworksReturnsTheSameAgain(t *testing.T) {
	list, codes := oddNets(), oddGabidulins()
	for i, n := range list {
		o, number := list[i*7%len(list)], oddNumbers[i%len(oddNumbers)]
		odd := netAsked{node: number, set: oddNumbers, messages: oddNumbers, errors: oddNumbers, values: oddNumbers, sinks: oddNumbers[i%20:], paths: [][]int64{nil, oddNumbers}, g: codes[i%len(codes)]}
		is(t, fmt.Sprint("again ", n, odd), netAnswers(n, o, odd), netAnswers(n, o, odd))
		odd.node = 1
		is(t, fmt.Sprint("again at 1 ", n, odd), netAnswers(n, o, odd), netAnswers(n, o, odd))
		if impl.ValidNet(n) {
			a := fitting(n, int64(i)%n.Nodes)
			is(t, fmt.Sprint("again ", n, a), netAnswers(n, n, a), netAnswers(copiedNet(n), n, a))
		}
	}
}

// manySinks are networks with several sinks, among them those for which there are no coefficients.
func manySinks() ([]impl.Net, [][]int64) {
	var nets []impl.Net
	var lists [][]int64
	for i, u := range unfilled {
		for _, f := range []impl.Field{{Degree: 1, Poly: 2}, {Degree: 2, Poly: 7}} {
			nets = append(nets, netWith(f, u.messages, shapeOf(u.nodes, u.edges), bitsFrom(int64(i))))
			lists = append(lists, u.sinks)
		}
	}
	return nets, lists
}

// TestFillingAtTheSameTime asks for the same from many sides, with one thread and with several.
func TestFillingAtTheSameTime(t *testing.T) {
	nets, lists := manySinks()
	for i, n := range nets {
		full, code := impl.FillCoefs(n, lists[i])
		want := fmt.Sprint(full, code)
		for _, threads := range []int{1, 2, 8} {
			before := runtime.GOMAXPROCS(threads)
			got := make([]string, 20)
			var all sync.WaitGroup
			for k := range got {
				all.Go(func() {
					full, code := impl.FillCoefs(n, lists[i])
					got[k] = fmt.Sprint(full, code)
				})
			}
			all.Wait()
			runtime.GOMAXPROCS(before)
			is(t, fmt.Sprint(n, lists[i], " with ", threads), slices.Repeat([]string{want}, len(got)), got)
		}
	}
}

// TestNothingRunsOnBehindACall has results and errors of FillCoefs of all kinds.
func TestNothingRunsOnBehindACall(t *testing.T) {
	nets, lists := manySinks()
	// With one thread, what has been waited for has ended, but for a chance interruption.
	defer runtime.GOMAXPROCS(runtime.GOMAXPROCS(1))
	calls, left := 0, 0
	for range 20 {
		for i, n := range nets {
			for _, sinks := range [][]int64{lists[i], {n.Nodes - 1}, {1, 2, 3, 4}} {
				before := runtime.NumGoroutine()
				impl.FillCoefs(n, sinks)
				calls++
				if runtime.NumGoroutine() > before {
					left++
				}
			}
		}
	}
	is(t, "calls behind which something runs on", true, left <= calls/50)
}

func TestNilListsOfNetworksAreEmptyLists(t *testing.T) {
	empty, none := []int64{}, [][]int64{}
	for _, f := range append(allFields(), noFields...) {
		g := impl.Gabidulin{Field: f, Points: []int64{1}, Dimension: 1}
		for _, node := range []int64{0, 1, 2} {
			noEdges, emptyEdges := impl.Net{Field: f, Nodes: 2, Messages: 1}, impl.Net{Field: f, Nodes: 2, Messages: 1, Edges: none, Coefs: none}
			a := netAsked{node: node, g: g}
			b := netAsked{node: node, g: g, set: empty, messages: empty, errors: empty, values: empty, sinks: empty, paths: none}
			is(t, fmt.Sprint("no lists ", f), netAnswers(noEdges, emptyEdges, a), netAnswers(emptyEdges, noEdges, b))
			// The node 1 has nothing, and so the edge from it has no coefficients.
			noCoefs, emptyCoefs := netWith(f, 1, shapeOf(3, "12"), nil), netWith(f, 1, shapeOf(3, "12"), nil)
			noCoefs.Coefs = [][]int64{nil}
			a.paths, b.paths = [][]int64{nil}, [][]int64{empty}
			is(t, fmt.Sprint("no coefficients ", f), netAnswers(noCoefs, emptyCoefs, a), netAnswers(emptyCoefs, noCoefs, b))
			is(t, fmt.Sprint("same ", f), "true true", fmt.Sprint(impl.SameNet(noCoefs, emptyCoefs), impl.SameNet(noEdges, emptyEdges)))
		}
	}
}

func TestLongListsForNetworks(t *testing.T) {
	f := impl.Field{Degree: 3, Poly: 11}
	good := netWith(f, 2, butterfly, constant(1))
	long, many := make([]int64, 1000000), make([][]int64, 1000000)
	g := impl.Gabidulin{Field: f, Points: []int64{1, 2}, Dimension: 1}
	for i, n := range []impl.Net{
		{Field: f, Nodes: 8, Messages: 3, Edges: many, Coefs: many},
		{Field: f, Nodes: 8, Messages: 3, Edges: slices.Repeat([][]int64{{0, 1}}, 300000), Coefs: many[:300000]},
		changedNet(good, func(n *impl.Net) { n.Edges[0] = long }),
		changedNet(good, func(n *impl.Net) { n.Coefs[0] = long }),
		changedNet(good, func(n *impl.Net) { n.Coefs = many }),
	} {
		is(t, fmt.Sprint("long network ", i), "false true false", fmt.Sprint(impl.ValidNet(n), impl.SameNet(n, n), impl.SameNet(n, good)))
		text := netAnswers(n, good, netAsked{node: 1, set: long, messages: long, errors: long, values: long, sinks: long, paths: many, g: g})
		// Without the line for ValidNet and SameNet, each line ends with ErrInvalid.
		is(t, fmt.Sprint("long network ", i, " errors"), 15, strings.Count(text, "1\n"))
	}
	refused(t, "long set", impl.ErrRange)(impl.CheckCut(good, 1, long))
	told(t, "long path", false, impl.OK)(impl.ArePathsTo(good, 5, [][]int64{long}))
	told(t, "many paths", false, impl.OK)(impl.ArePathsTo(good, 5, many))
	told(t, "many paths and no edge", false, impl.ErrRange)(impl.ArePathsTo(good, 5, append(many[:999999:999999], []int64{9})))
	refusedList(t, "long messages", impl.ErrRange)(impl.Delivered(good, long, 5))
	refusedList(t, "long errors", impl.ErrRange)(impl.DeliveredWith(good, []int64{1, 1}, long, 5))
	refusedList(t, "long values", impl.ErrRange)(impl.SolveAt(good, 5, long))
	refusedList(t, "long values", impl.ErrRange)(impl.DecodeAt(good, 5, g, long))
	refusedNet(t, "long sinks", impl.ErrRange)(impl.FillCoefs(good, long))
	g.Points = long
	refusedList(t, "long points", impl.ErrInvalid)(impl.DecodeAt(good, 5, g, []int64{1, 1}))
}

// longerNet has some memory behind all of its lists, and tells what all of this memory has, as text.
func longerNet(n impl.Net) (impl.Net, func() string) {
	edges, one := longerRows(n.Edges)
	coefs, two := longerRows(n.Coefs)
	n.Edges, n.Coefs = edges, coefs
	return n, func() string { return fmt.Sprint(n, one, two, edges[:cap(edges)], coefs[:cap(coefs)]) }
}

func TestNetworksStayAsTheyAre(t *testing.T) {
	nets, lists := manySinks()
	for i, n := range slices.Concat(nets, someNets(), allNoNets()[:300]) {
		a := netAsked{node: 1, paths: [][]int64{{0}}, sinks: []int64{1}}
		if impl.ValidNet(n) {
			a = fitting(n, int64(i)%n.Nodes)
		}
		if i < len(lists) {
			a.sinks = lists[i]
		}
		shown, memory := longerNet(n)
		other, otherMemory := longerNet(n)
		var whole [7][]int64
		for k, list := range []*[]int64{&a.set, &a.messages, &a.errors, &a.values, &a.sinks, &a.g.Points} {
			*list, whole[k] = longer(*list)
		}
		paths, rows := longerRows(a.paths)
		a.paths = paths
		before := fmt.Sprint(memory(), otherMemory(), whole, rows, paths[:cap(paths)])
		netAnswers(shown, other, a)
		is(t, fmt.Sprint("arguments ", n, a), before, fmt.Sprint(memory(), otherMemory(), whole, rows, paths[:cap(paths)]))
	}
}

// netResults are all lists of numbers that chapter 7 returns for a network that delivers all messages, of bits, to a node.
func netResults(t *testing.T, n impl.Net, a netAsked) [][]int64 {
	t.Helper()
	var lists [][]int64
	add := func(list []int64, code int64) {
		t.Helper()
		is(t, fmt.Sprint("code ", n), impl.OK, code)
		lists = append(lists, list)
	}
	addAll := func(list [][]int64, code int64) {
		t.Helper()
		for _, one := range list {
			add(one, code)
		}
		clear(list[:cap(list)])
	}
	add(impl.EdgesInto(n, a.node))
	add(impl.CutTo(n, a.node))
	addAll(impl.PathsTo(n, a.node))
	addAll(impl.EdgeVectors(n))
	add(impl.Delivered(n, a.messages, a.node))
	add(impl.Delivered(n, a.messages, 0))
	add(impl.SolveAt(n, a.node, a.values))
	add(impl.SolveAt(n, 0, a.messages))
	addAll(impl.ErrorRows(n, a.node))
	addAll(impl.ErrorRows(n, 0))
	add(impl.DeliveredWith(n, a.messages, a.errors, a.node))
	add(impl.DeliveredWith(n, a.messages, a.errors, 0))
	full, code := impl.FillCoefs(n, a.sinks)
	addAll(full.Edges, code)
	addAll(full.Coefs, code)
	u, code := impl.BitMatrix(n, a.node)
	add(u.Rows, code)
	add(impl.DecodeAt(n, a.node, a.g, a.values))
	return lists
}

func TestListsOfNetworksAreNewMemory(t *testing.T) {
	found := 0
	for _, f := range allFields() {
		for messages := int64(1); messages <= min(3, f.Degree); messages++ {
			for _, n := range bitNets(f, messages) {
				node := n.Nodes - 1
				a := fitting(n, node)
				a.errors = make([]int64, len(n.Edges))
				a.messages = wordOfMessage(a.g, []int64{sizeOf(f) - 1})
				a.values = valuesAt(n, a.messages, a.errors, node)
				if rankOfNode(n, node) < messages || len(a.values) > 10 || mostChoices(n) > 4096 {
					continue
				}
				found++
				before := fmt.Sprint(n, a)
				text := netAnswers(n, n, a)
				spoilEach(t, fmt.Sprint(n), netResults(t, n, a))
				is(t, fmt.Sprint("arguments ", n), before, fmt.Sprint(n, a))
				is(t, fmt.Sprint("results behind overwritten ones ", n), text, netAnswers(n, n, a))
			}
		}
	}
	is(t, "there are some", true, found > 200)
}
