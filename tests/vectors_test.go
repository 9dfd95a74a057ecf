package tests

import (
	"fmt"
	"slices"
	"testing"

	"loop.example/g01144/impl"
)

// Promise 19, for vectors and errors: messages come as vectors tell, and errors add what their rows tell.

// fullNets are networks that deliver all messages to some node, and others that nearly do.
func fullNets(f impl.Field) []impl.Net {
	last := sizeOf(f) - 1
	list := []impl.Net{
		// The messages alone, in another order, and twice.
		netWith(f, 1, shapeOf(2, "01"), constant(last)),
		netWith(f, 1, shapeOf(2, "01 01"), constant(1)),
		{Field: f, Nodes: 2, Messages: 2, Edges: [][]int64{{0, 1}, {0, 1}}, Coefs: [][]int64{{0, 1}, {last, 0}}},
		{Field: f, Nodes: 2, Messages: 3, Edges: [][]int64{{0, 1}, {0, 1}, {0, 1}}, Coefs: [][]int64{{0, 1, 0}, {1, 0, 1}, {0, last, 1}}},
		{Field: f, Nodes: 2, Messages: 3, Edges: [][]int64{{0, 1}, {0, 1}, {0, 1}, {0, 1}}, Coefs: [][]int64{{1, 1, 0}, {0, 1, 1}, {1, 0, 1}, {1, last, 1}}},
		// Not all of them, and the same one twice.
		{Field: f, Nodes: 2, Messages: 2, Edges: [][]int64{{0, 1}}, Coefs: [][]int64{{1, last}}},
		{Field: f, Nodes: 2, Messages: 2, Edges: [][]int64{{0, 1}, {0, 1}}, Coefs: [][]int64{{1, last}, {1, last}}},
		{Field: f, Nodes: 2, Messages: 3, Edges: [][]int64{{0, 1}, {0, 1}, {0, 1}}, Coefs: [][]int64{{1, 0, 0}, {0, 1, last}, {1, 1, last}}},
		netWith(f, 1, shapeOf(2, "01 01"), constant(0)),
		netWith(f, 3, shapeOf(3, "01 01 01 12 12"), constant(0)),
	}
	for seed := range int64(6) {
		list = append(list, netWith(f, 2, butterfly, drawnFrom(f, seed)), netWith(f, 1+seed%3, shapeOf(4, "01 01 02 02 12 12 13 13 23 23 23"), drawnFrom(f, seed)))
	}
	return list
}

// mixingNets are all that the vectors are asked of.
func mixingNets() []impl.Net {
	list := append(someNets(), smallNets()...)
	for _, f := range allFields() {
		list = append(list, fullNets(f)...)
	}
	return list
}

// mixedMessages are some lists of messages.
func mixedMessages(n impl.Net) [][]int64 {
	last := slices.Repeat([]int64{sizeOf(n.Field) - 1}, int(n.Messages))
	return append(identityWords(n.Messages), make([]int64, n.Messages), last, mixedWord(n.Field, n.Messages, 5), mixedWord(n.Field, n.Messages, 17))
}

// mixedErrors are errors on no edge, on one, on some and on all.
func mixedErrors(n impl.Net) [][]int64 {
	number := len(n.Edges)
	list := [][]int64{make([]int64, number), slices.Repeat([]int64{sizeOf(n.Field) - 1}, number)}
	for i := range int64(number) {
		one := make([]int64, number)
		one[i] = 1 + i%(sizeOf(n.Field)-1)
		list = append(list, one)
	}
	some := netWith(n.Field, 1, shape{2, slices.Repeat([][]int64{{0, 1}}, number)}, drawnFrom(n.Field, int64(number)))
	return append(list, slices.Concat(some.Coefs...))
}

func TestEdgeVectors(t *testing.T) {
	for _, n := range mixingNets() {
		want := [][]int64{}
		for i := range n.Edges {
			want = append(want, vectorOf(n, int64(i)))
		}
		listedWords(t, fmt.Sprint("vectors of ", n), want)(impl.EdgeVectors(n))
	}
}

func TestRanks(t *testing.T) {
	for _, n := range mixingNets() {
		for node := range n.Nodes {
			value(t, fmt.Sprint(n, " rank at ", node), rankOfNode(n, node))(impl.RankAt(n, node))
		}
		value(t, fmt.Sprint(n, " rank at the source"), n.Messages)(impl.RankAt(n, 0))
	}
}

func TestDelivered(t *testing.T) {
	for _, n := range mixingNets() {
		none := make([]int64, len(n.Edges))
		for _, messages := range mixedMessages(n) {
			for node := range n.Nodes {
				listed(t, fmt.Sprint(n, messages, " delivered at ", node), valuesAt(n, messages, none, node))(impl.Delivered(n, messages, node))
			}
			listed(t, fmt.Sprint(n, messages, " at the source"), messages)(impl.Delivered(n, messages, 0))
		}
	}
}

func TestErrorRows(t *testing.T) {
	for _, n := range mixingNets() {
		for node := range n.Nodes {
			want := [][]int64{}
			for i := range n.Edges {
				want = append(want, gainsInto(n, int64(i), node))
			}
			listedWords(t, fmt.Sprint(n, " rows of errors at ", node), want)(impl.ErrorRows(n, node))
		}
		listedWords(t, fmt.Sprint(n, " rows of errors at the source"), make([][]int64, len(n.Edges)))(impl.ErrorRows(n, 0))
	}
}

// TestErrorsAddWhatTheirRowsTell adds the rows that are returned, each multiplied by its error.
func TestErrorsAddWhatTheirRowsTell(t *testing.T) {
	for k, n := range mixingNets() {
		messages := mixedWord(n.Field, n.Messages, int64(k))
		for node := range n.Nodes {
			rows, _ := impl.ErrorRows(n, node)
			sent, _ := impl.Delivered(n, messages, node)
			for _, errors := range mixedErrors(n) {
				want := slices.Clone(sent)
				for i, a := range errors {
					want = sumOfWords(want, multipleOfWord(n.Field, a, rows[i]))
				}
				name := fmt.Sprint(n, messages, errors, " delivered at ", node)
				listed(t, name, want)(impl.DeliveredWith(n, messages, errors, node))
				if k%5 == 0 {
					listed(t, name+" by gains", valuesAt(n, messages, errors, node))(impl.DeliveredWith(n, messages, errors, node))
				}
			}
		}
	}
}

// TestDeliveredEdgeByEdge carries elements from one edge to the next one.
func TestDeliveredEdgeByEdge(t *testing.T) {
	f := impl.Field{Degree: 3, Poly: 11}
	n := impl.Net{Field: f, Nodes: 4, Messages: 2, Edges: [][]int64{{0, 1}, {0, 2}, {1, 3}, {2, 3}, {2, 3}}, Coefs: [][]int64{{2, 1}, {0, 4}, {5}, {1}, {0}}}
	// The message 3, 6: 2 times 3 is 6, and 6 and 6 are 0; 4 times 6 is 5.
	listed(t, "at 1", []int64{0})(impl.Delivered(n, []int64{3, 6}, 1))
	listed(t, "at 2", []int64{5})(impl.Delivered(n, []int64{3, 6}, 2))
	listed(t, "at 3", []int64{0, 5, 0})(impl.Delivered(n, []int64{3, 6}, 3))
	// With an error of 2 on the first edge, 5 times 2 is 1; one of 7 on the last one stays as it is.
	listed(t, "at 3 with errors", []int64{1, 5, 7})(impl.DeliveredWith(n, []int64{3, 6}, []int64{2, 0, 0, 0, 7}, 3))
	listed(t, "at 1 with errors", []int64{2})(impl.DeliveredWith(n, []int64{3, 6}, []int64{2, 0, 0, 0, 7}, 1))
	listedWords(t, "vectors", [][]int64{{2, 1}, {0, 4}, {1, 5}, {0, 4}, {0, 0}})(impl.EdgeVectors(n))
	listedWords(t, "rows of errors", [][]int64{{5, 0, 0}, {0, 1, 0}, {1, 0, 0}, {0, 1, 0}, {0, 0, 1}})(impl.ErrorRows(n, 3))
	listed(t, "solved", []int64{3, 6})(impl.SolveAt(n, 3, []int64{0, 5, 0}))
	refusedList(t, "the last edge carries 0", impl.ErrNotFound)(impl.SolveAt(n, 3, []int64{0, 5, 1}))
	refusedList(t, "one edge", impl.ErrState)(impl.SolveAt(n, 1, []int64{0}))
}

// messagesThatGive are all lists of messages with such values at a node.
func messagesThatGive(n impl.Net, node int64, values []int64) [][]int64 {
	vectors := vectorsInto(n, node)
	return slices.DeleteFunc(orderedLists(n.Field, int(n.Messages)), func(messages []int64) bool {
		for i, vector := range vectors {
			if productOfWords(n.Field, vector, messages) != values[i] {
				return true
			}
		}
		return false
	})
}

// checkSolving asks for the messages with such values.
func checkSolving(t *testing.T, n impl.Net, node int64, values []int64) {
	t.Helper()
	name := fmt.Sprint(n, " values at ", node, values)
	if rankOfNode(n, node) < n.Messages {
		refusedList(t, name, impl.ErrState)(impl.SolveAt(n, node, values))
		return
	}
	messages := messagesThatGive(n, node, values)
	if len(messages) == 0 {
		refusedList(t, name, impl.ErrNotFound)(impl.SolveAt(n, node, values))
		return
	}
	is(t, name+" messages", 1, len(messages))
	listed(t, name, messages[0])(impl.SolveAt(n, node, values))
}

// TestSolvingAllValues has all values of networks with few of them.
func TestSolvingAllValues(t *testing.T) {
	for _, n := range mixingNets() {
		for node := range n.Nodes {
			number := int64(countAtNode(n, node))
			if n.Field.Degree*max(number, n.Messages) > 4 {
				continue
			}
			for _, values := range orderedLists(n.Field, int(number)) {
				checkSolving(t, n, node, values)
			}
		}
	}
}

// TestSolvingWhatIsDelivered has values that messages have, and others.
func TestSolvingWhatIsDelivered(t *testing.T) {
	for k, n := range mixingNets() {
		for node := range n.Nodes {
			full := rankOfNode(n, node) == n.Messages
			for i, messages := range mixedMessages(n) {
				values := valuesAt(n, messages, make([]int64, len(n.Edges)), node)
				name := fmt.Sprint(n, " delivered at ", node, values)
				if !full {
					refusedList(t, name, impl.ErrState)(impl.SolveAt(n, node, values))
				} else {
					listed(t, name, messages)(impl.SolveAt(n, node, values))
				}
				if len(values) > 0 && (k+i)%3 == 0 && n.Field.Degree*n.Messages <= 9 {
					values[i%len(values)] ^= 1
					checkSolving(t, n, node, values)
				}
			}
		}
	}
}

func TestSolvingAtTheSource(t *testing.T) {
	for _, n := range someNets() {
		for _, messages := range mixedMessages(n) {
			listed(t, fmt.Sprint(n, " at the source ", messages), messages)(impl.SolveAt(n, 0, messages))
		}
	}
}

// noListsOf are lists of another length, or with a number that is no element.
func noListsOf(f impl.Field, length int) [][]int64 {
	list := [][]int64{make([]int64, length+1), make([]int64, length+100)}
	if length > 0 {
		list = append(list, nil, make([]int64, length-1))
		list = append(list, noElementAt(f, int64(length))...)
	}
	for _, a := range noElements(f) {
		list = append(list, append(make([]int64, length), a))
	}
	return list
}

// TestListsThatDoNotFit has them for all nodes, also for those whose rank is not full.
func TestListsThatDoNotFit(t *testing.T) {
	for i, n := range mixingNets() {
		if i%4 > 0 {
			continue
		}
		messages, errors := mixedWord(n.Field, n.Messages, 3), make([]int64, len(n.Edges))
		for node := range n.Nodes {
			name := fmt.Sprint(n, " at ", node)
			for _, list := range noListsOf(n.Field, int(n.Messages)) {
				refusedList(t, fmt.Sprint(name, " messages ", list), impl.ErrRange)(impl.Delivered(n, list, node))
				refusedList(t, fmt.Sprint(name, " messages ", list), impl.ErrRange)(impl.DeliveredWith(n, list, errors, node))
			}
			for _, list := range noListsOf(n.Field, len(errors)) {
				refusedList(t, fmt.Sprint(name, " errors ", list), impl.ErrRange)(impl.DeliveredWith(n, messages, list, node))
			}
			for _, list := range noListsOf(n.Field, countAtNode(n, node)) {
				refusedList(t, fmt.Sprint(name, " values ", list), impl.ErrRange)(impl.SolveAt(n, node, list))
			}
		}
	}
}
