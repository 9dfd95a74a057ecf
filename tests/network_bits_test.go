package tests

import (
	"fmt"
	"slices"
	"strings"
	"testing"

	"loop.example/g01144/impl"
)

// Promise 20: words of Gabidulin codes come through networks of bits behind a few errors.

// bitsFrom fills with bits that are drawn, 1 more often than 0.
func bitsFrom(seed int64) func() int64 {
	draw := lot(seed*53 + 7)
	return func() int64 { return min(1, draw.below(3)) }
}

// bitShapes are shapes with nodes to which three messages come on many ways, and others.
func bitShapes() []shape {
	shapes := []shape{
		shapeOf(2, "01 01 01"),
		shapeOf(2, "01 01 01 01 01 01"),
		shapeOf(3, "01 01 01 01 12 12 12 12"),
		shapeOf(4, "01 01 02 02 12 12 13 13 23 23 23"),
		shapeOf(5, "01 01 01 02 02 13 13 14 23 23 24 24 34 34"),
		shapeOf(8, "01 02 03 14 15 24 26 35 36 47 57 67"),
		shapeOf(6, "01 02 03 04 05 12 13 14 15 23 24 25 34 35"),
	}
	return append(append(shapes, wideShapes()...), drawnShapes(30)...)
}

// bitNets have bits as coefficients, of a field and for a number of messages.
func bitNets(f impl.Field, messages int64) []impl.Net {
	var list []impl.Net
	for i, s := range bitShapes() {
		s = s.sorted()
		list = append(list, netWith(f, messages, s, bitsFrom(int64(i))), netWith(f, messages, s, bitsFrom(int64(i+100))))
		if i%9 == 0 {
			list = append(list, netWith(f, messages, s, constant(1)), netWith(f, messages, s, constant(0)))
		}
	}
	return list
}

// areBits asks for coefficients that are 0 and 1.
func areBits(n impl.Net) bool {
	return !slices.ContainsFunc(slices.Concat(n.Coefs...), func(a int64) bool { return a > 1 })
}

// bitMatrixOf has a row for each vector.
func bitMatrixOf(n impl.Net, node int64) impl.Matrix {
	a := impl.Matrix{Cols: n.Messages}
	for _, vector := range vectorsInto(n, node) {
		r := int64(0)
		for place, bit := range vector {
			r += bit << place
		}
		a.Rows = append(a.Rows, r)
	}
	return a
}

// checkBitMatrix asks for the vectors as bits, or for an error.
func checkBitMatrix(t *testing.T, n impl.Net, node int64) {
	t.Helper()
	name := fmt.Sprint("bits of ", n, " at ", node)
	if !areBits(n) || len(intoOf(n, node)) > 10 {
		refusedMatrix(t, name, impl.ErrState)(impl.BitMatrix(n, node))
		return
	}
	matrix(t, name, bitMatrixOf(n, node))(impl.BitMatrix(n, node))
}

func TestBitMatrix(t *testing.T) {
	nets := slices.Concat(someNets(), smallNets())
	for i, f := range allFields() {
		nets = append(nets, bitNets(f, int64(1+i%3))...)
	}
	found := map[bool]int{}
	for _, n := range nets {
		found[areBits(n)]++
		for node := int64(1); node < n.Nodes; node++ {
			checkBitMatrix(t, n, node)
		}
	}
	is(t, "networks of both kinds", "true true", fmt.Sprint(found[true] > 100, found[false] > 100))
}

// TestCoefficientsThatAreNoBits has one of them, on any edge: also on one that does not lead to the node.
func TestCoefficientsThatAreNoBits(t *testing.T) {
	for _, f := range allFields() {
		if f.Degree == 1 {
			continue
		}
		g := impl.Gabidulin{Field: f, Points: []int64{1, 2}, Dimension: 1}
		good := netWith(f, 2, butterfly, constant(1))
		for i, coefs := range good.Coefs {
			for place := range coefs {
				for _, a := range []int64{2, 3, sizeOf(f) - 1} {
					n := changedNet(good, func(n *impl.Net) { n.Coefs[i][place] = a })
					for node := int64(1); node < n.Nodes; node++ {
						refusedMatrix(t, fmt.Sprint("no bit ", n, node), impl.ErrState)(impl.BitMatrix(n, node))
						refusedList(t, fmt.Sprint("no bit ", n, node), impl.ErrState)(impl.DecodeAt(n, node, g, make([]int64, len(intoOf(n, node)))))
					}
				}
			}
		}
		// The vectors alone are bits: 0 times anything is 0.
		n := impl.Net{Field: f, Nodes: 3, Messages: 1, Edges: [][]int64{{0, 1}, {0, 2}, {1, 2}}, Coefs: [][]int64{{0}, {1}, {2}}}
		listedWords(t, "vectors of bits", [][]int64{{0}, {1}, {0}})(impl.EdgeVectors(n))
		refusedMatrix(t, "a coefficient of 0 that is no bit", impl.ErrState)(impl.BitMatrix(n, 2))
	}
}

// TestManyEdgesIntoANode has as many as a matrix can have rows, and more.
func TestManyEdgesIntoANode(t *testing.T) {
	for _, f := range allFields() {
		messages := min(3, f.Degree)
		g := impl.Gabidulin{Field: f, Points: []int64{1, 2, 4}[:messages], Dimension: 1}
		for number := range 15 {
			n := netWith(f, messages, shapeOf(3, strings.Repeat("01 ", number)+strings.Repeat("02 ", 14-number)), bitsFrom(int64(number)))
			for node := int64(1); node < 3; node++ {
				checkBitMatrix(t, n, node)
				values := make([]int64, len(intoOf(n, node)))
				switch {
				case len(values) > 10:
					refusedMatrix(t, fmt.Sprint("many edges ", n), impl.ErrState)(impl.BitMatrix(n, node))
					refusedList(t, fmt.Sprint("many edges ", n), impl.ErrState)(impl.DecodeAt(n, node, g, values))
				case len(values) > 7:
					listed(t, fmt.Sprint("message 0 ", n), []int64{0})(impl.DecodeAt(n, node, g, values))
				}
			}
		}
	}
}

// sentOf is what the first edges that suffice would carry without errors; false if there are none.
func sentOf(n impl.Net, node int64, values []int64) ([]int64, bool) {
	vectors := vectorsInto(n, node)
	for _, which := range choices(len(vectors), int(n.Messages)) {
		rows := picked(vectors, which)
		if determinant(n.Field, rows) == 0 {
			continue
		}
		var sent []int64
		for column := range n.Messages {
			// The determinant is 1, as there are bits alone.
			var changed [][]int64
			for i, r := range rows {
				changed = append(changed, slices.Clone(r))
				changed[i][column] = values[which[i]]
			}
			sent = append(sent, determinant(n.Field, changed))
		}
		return sent, true
	}
	return nil, false
}

// checkDecodingAt lists all messages whose words are near enough to what has been sent.
func checkDecodingAt(t *testing.T, n impl.Net, node int64, g impl.Gabidulin, values []int64) int64 {
	t.Helper()
	name := fmt.Sprint(n, g, " decoded at ", node, values)
	sent, full := sentOf(n, node, values)
	if !full || !areBits(n) || len(values) > 10 {
		refusedList(t, name, impl.ErrState)(impl.DecodeAt(n, node, g, values))
		return impl.ErrState
	}
	messages := messagesWithin(g, sent, radiusOfPoints(g))
	if len(messages) == 0 {
		refusedList(t, name, impl.ErrNotFound)(impl.DecodeAt(n, node, g, values))
		return impl.ErrNotFound
	}
	is(t, name+" messages", 1, len(messages))
	listed(t, name, messages[0])(impl.DecodeAt(n, node, g, values))
	return impl.OK
}

// gabidulinsFor have as many points as there are messages, and at most so many messages of their own.
func gabidulinsFor(f impl.Field, points, most int64) []impl.Gabidulin {
	return slices.DeleteFunc(fewGabidulins(f, most), func(g impl.Gabidulin) bool { return lengthOf(g) != points })
}

// TestWordsComeThrough has no errors, at all nodes.
func TestWordsComeThrough(t *testing.T) {
	for _, f := range allFields() {
		for messages := int64(1); messages <= 3; messages++ {
			list := gabidulinsFor(f, messages, 4096)
			for i, n := range bitNets(f, messages) {
				if len(list) == 0 {
					break
				}
				g := list[i%len(list)]
				message := someMessages(g)[i%4]
				w := wordOfMessage(g, message)
				for node := int64(1); node < n.Nodes; node++ {
					values := valuesAt(n, w, make([]int64, len(n.Edges)), node)
					name := fmt.Sprint(n, g, " comes through to ", node, values)
					if rankOfNode(n, node) < messages || len(values) > 10 {
						refusedList(t, name, impl.ErrState)(impl.DecodeAt(n, node, g, values))
					} else {
						listed(t, name, message)(impl.DecodeAt(n, node, g, values))
					}
				}
			}
		}
	}
}

// errorsOn have an element on each of some edges.
func errorsOn(n impl.Net, edges []int, element func(i int) int64) []int64 {
	errors := make([]int64, len(n.Edges))
	for _, i := range edges {
		errors[i] = element(i)
	}
	return errors
}

// TestWordsComeThroughBehindErrors has errors on as many edges as the radius, on all edges in turns.
func TestWordsComeThroughBehindErrors(t *testing.T) {
	for _, f := range allFields() {
		list := gabidulinsFor(f, 3, 32)
		for i, n := range bitNets(f, 3) {
			if len(list) == 0 {
				break
			}
			g := list[i%len(list)]
			is(t, "radius", 1, radiusOfPoints(g))
			message := mixedWord(f, 1, int64(i))
			w := wordOfMessage(g, message)
			for node := int64(1); node < n.Nodes; node++ {
				if rankOfNode(n, node) < 3 {
					continue
				}
				for edge := range n.Edges {
					for a := int64(1); a < sizeOf(f); a += 1 + f.Degree {
						errors := errorsOn(n, []int{edge}, func(int) int64 { return a })
						values, code := impl.DeliveredWith(n, w, errors, node)
						is(t, "delivered", fmt.Sprint(valuesAt(n, w, errors, node), 0), fmt.Sprint(values, code))
						listed(t, fmt.Sprint(n, g, " comes through to ", node, values, " with ", errors), message)(impl.DecodeAt(n, node, g, values))
					}
				}
			}
		}
	}
}

// TestWordsBehindTooManyErrors has errors on two edges, on some and on all.
func TestWordsBehindTooManyErrors(t *testing.T) {
	counts := map[int64]int{}
	for k, f := range allFields() {
		for messages := int64(1); messages <= 3; messages++ {
			list := gabidulinsFor(f, messages, 256)
			for i, n := range bitNets(f, messages) {
				if len(list) == 0 || len(n.Edges) < 2 || (i+k)%2 > 0 {
					continue
				}
				g := list[i%len(list)]
				w := wordOfMessage(g, mixedWord(f, g.Dimension, int64(i)))
				draw := lot(i)
				element := func(int) int64 { return 1 + draw.below(sizeOf(f)-1) }
				pairs, all := choices(len(n.Edges), 2), choices(len(n.Edges), len(n.Edges))
				for node := int64(1); node < n.Nodes; node++ {
					for _, edges := range append(picked(pairs, []int{0, len(pairs) / 2, len(pairs) - 1}), all[0]) {
						counts[checkDecodingAt(t, n, node, g, valuesAt(n, w, errorsOn(n, edges, element), node))]++
					}
				}
			}
		}
	}
	is(t, "all kinds of results", "true true true", fmt.Sprint(counts[impl.OK] > 100, counts[impl.ErrState] > 100, counts[impl.ErrNotFound] > 100))
}

// TestAllValuesAreDecoded has all values at the node 1 of small networks.
func TestAllValuesAreDecoded(t *testing.T) {
	for _, c := range []struct {
		f     impl.Field
		coefs [][]int64
	}{
		{impl.Field{Degree: 1, Poly: 3}, [][]int64{{0}, {1}, {1}}},
		{impl.Field{Degree: 1, Poly: 2}, [][]int64{{0}, {0}, {0}}},
		{impl.Field{Degree: 2, Poly: 7}, [][]int64{{1, 1}, {1, 1}, {0, 1}, {1, 0}}},
		{impl.Field{Degree: 2, Poly: 7}, [][]int64{{0, 0}, {1, 1}, {1, 1}}},
		{impl.Field{Degree: 3, Poly: 11}, [][]int64{{1, 1, 0}, {0, 1, 1}, {1, 0, 0}}},
		{impl.Field{Degree: 3, Poly: 13}, [][]int64{{1, 1, 0}, {0, 1, 1}, {1, 0, 1}}},
		{impl.Field{Degree: 3, Poly: 13}, [][]int64{{0, 0, 1}, {0, 1, 0}, {0, 1, 1}, {1, 1, 1}}},
		{impl.Field{Degree: 4, Poly: 25}, [][]int64{{0, 1}, {1, 1}}},
		{impl.Field{Degree: 5, Poly: 61}, [][]int64{{1, 1}, {1, 0}}},
	} {
		messages := int64(len(c.coefs[0]))
		n := netWith(c.f, messages, shapeOf(2, strings.Repeat("01 ", len(c.coefs))), constant(0))
		n.Coefs = c.coefs
		for _, g := range gabidulinsFor(c.f, messages, 64) {
			for _, values := range orderedLists(c.f, len(c.coefs)) {
				if len(values) > 3 && c.f.Degree > 2 && sumOf(values, 15)%3 > 0 {
					continue
				}
				checkDecodingAt(t, n, 1, g, values)
			}
		}
	}
}

func TestDecodingAtANodeThatIsKnown(t *testing.T) {
	f := impl.Field{Degree: 3, Poly: 11}
	g := impl.Gabidulin{Field: f, Points: []int64{1, 2, 4}, Dimension: 1}
	// The message 3 has the word 3, 6, 7.
	n := impl.Net{Field: f, Nodes: 3, Messages: 3, Edges: [][]int64{{0, 1}, {0, 1}, {0, 2}, {1, 2}, {1, 2}, {1, 2}}, Coefs: [][]int64{{1, 0, 0}, {1, 1, 0}, {0, 1, 1}, {1, 0}, {1, 0}, {1, 1}}}
	matrix(t, "bits", impl.Matrix{Cols: 3, Rows: []int64{6, 1, 1, 2}})(impl.BitMatrix(n, 2))
	// The second of two equal vectors is left out, whatever it carries.
	listed(t, "without errors", []int64{3})(impl.DecodeAt(n, 2, g, []int64{1, 3, 3, 6}))
	listed(t, "an error on an edge that is left out", []int64{3})(impl.DecodeAt(n, 2, g, []int64{1, 3, 5, 6}))
	listed(t, "an error on another edge", []int64{3})(impl.DecodeAt(n, 2, g, []int64{1, 7, 3, 6}))
	listed(t, "an error on the first edge of all", []int64{3})(impl.DecodeAt(n, 2, g, []int64{1, 7, 7, 2}))
	refusedList(t, "two errors", impl.ErrNotFound)(impl.DecodeAt(n, 2, g, []int64{0, 7, 3, 6}))
	refusedList(t, "a node that has not enough", impl.ErrState)(impl.DecodeAt(n, 1, g, []int64{3, 5}))
}

// TestGabidulinsThatDoNotFit have another field, or another number of points.
func TestGabidulinsThatDoNotFit(t *testing.T) {
	for i, f := range allFields() {
		for messages := int64(1); messages <= 3; messages++ {
			for _, n := range []impl.Net{
				netWith(f, messages, shapeOf(2, strings.Repeat("01 ", int(messages))), bitsFrom(3)),
				netWith(f, messages, butterfly, bitsFrom(4)),
				netWith(f, messages, butterfly, constant(sizeOf(f)-1)),
				netWith(f, messages, shapeOf(3, strings.Repeat("01 ", 13)), constant(0)),
				netWith(f, messages, shapeOf(2, ""), constant(0)),
			} {
				values := make([]int64, len(intoOf(n, 1)))
				for _, g := range fewGabidulins(f, 1024) {
					if lengthOf(g) != messages {
						refusedList(t, fmt.Sprint(n, g), impl.ErrRange)(impl.DecodeAt(n, 1, g, values))
					}
				}
				for k, other := range allFields() {
					for _, g := range gabidulinsFor(other, messages, 32) {
						if k != i {
							refusedList(t, fmt.Sprint(n, g), impl.ErrRange)(impl.DecodeAt(n, 1, g, values))
						}
					}
				}
			}
		}
	}
}

// TestValuesThatDoNotFit come ahead of coefficients that are no bits, and of ranks that are not full.
func TestValuesThatDoNotFit(t *testing.T) {
	for _, f := range allFields() {
		for messages := int64(1); messages <= min(3, f.Degree); messages++ {
			g := impl.Gabidulin{Field: f, Points: []int64{1, 2, 4}[:messages], Dimension: 1}
			for _, n := range []impl.Net{
				netWith(f, messages, shapeOf(2, strings.Repeat("01 ", int(messages))), bitsFrom(3)),
				netWith(f, messages, shapeOf(2, "01 01 01 01 01 01"), bitsFrom(1)),
				netWith(f, messages, butterfly, constant(sizeOf(f)-1)),
				netWith(f, messages, shapeOf(2, strings.Repeat("01 ", 13)), constant(0)),
				netWith(f, messages, shapeOf(2, ""), constant(0)),
			} {
				for _, values := range noListsOf(f, len(intoOf(n, 1))) {
					refusedList(t, fmt.Sprint(n, g, values), impl.ErrRange)(impl.DecodeAt(n, 1, g, values))
				}
				for _, node := range append(noNodes(n), 0) {
					refusedMatrix(t, fmt.Sprint(n, node), impl.ErrRange)(impl.BitMatrix(n, node))
					for _, values := range [][]int64{nil, make([]int64, messages), {-1}} {
						refusedList(t, fmt.Sprint(n, g, node, values), impl.ErrRange)(impl.DecodeAt(n, node, g, values))
					}
				}
			}
		}
	}
}

// TestGabidulinsThatAreNone come ahead of everything else.
func TestGabidulinsThatAreNone(t *testing.T) {
	for _, f := range allFields() {
		nets := []impl.Net{
			netWith(f, 1, shapeOf(2, "01"), constant(1)),
			netWith(f, 2, butterfly, bitsFrom(3)),
			netWith(f, 3, butterfly, constant(sizeOf(f)-1)),
			{},
		}
		for _, g := range slices.Concat(noGabidulins(f), gabidulinsOfNoFields(), []impl.Gabidulin{{}}) {
			for _, n := range nets {
				for _, node := range []int64{1, 0, -1, 9} {
					for _, values := range [][]int64{nil, {0}, {0, 0}, {-1}} {
						refusedList(t, fmt.Sprint(n, g, node, values), impl.ErrInvalid)(impl.DecodeAt(n, node, g, values))
					}
				}
			}
		}
	}
}
