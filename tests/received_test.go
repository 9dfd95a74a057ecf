package tests

import (
	"fmt"
	"math"
	"slices"
	"testing"

	"loop.example/g01144/impl"
)

// Promise 16, for what is received: received spaces are decoded.

// productRows are the rows that are sent, mixed.
func productRows(u, mixes impl.Matrix) []int64 {
	var rows []int64
	for _, chosen := range mixes.Rows {
		rows = append(rows, sumOf(u.Rows, chosen))
	}
	return rows
}

// checkSent asks for what is received, and how far away it is at most.
func checkSent(t *testing.T, u, mixes, errors impl.Matrix) {
	t.Helper()
	name := fmt.Sprint("received of ", u, mixes, errors)
	product := productRows(u, mixes)
	sent, added, all := setOf(product), setOf(errors.Rows), setOf(slices.Concat(product, errors.Rows))
	received := spaceOfRows(u.Cols, all.list)
	matrix(t, name, received)(impl.SendThrough(u, mixes, errors))
	most := int64(len(u.Rows)) - dimensionOf(sent.list) + dimensionOf(added.list)
	is(t, name+" distance", true, setOf(u.Rows).distance(all) <= most)
}

// TestAllThatIsSentOfSmallSpaces looks at all spaces with up to 2 columns, and at all small matrices.
func TestAllThatIsSentOfSmallSpaces(t *testing.T) {
	for cols := int64(1); cols <= 2; cols++ {
		for _, u := range smallSpaces(cols) {
			for _, mixes := range smallMatrices() {
				if len(u.Rows) > 0 && mixes.Cols != int64(len(u.Rows)) {
					continue
				}
				for rows := int64(0); rows <= 2; rows++ {
					for _, errors := range matricesOf(cols, rows) {
						checkSent(t, u, mixes, errors)
					}
				}
			}
		}
	}
}

func TestWhatIsReceivedOfLargeSpaces(t *testing.T) {
	for cols := int64(1); cols <= 10; cols++ {
		for i, u := range append(someSpaces(cols), identity(cols)) {
			dimension, seed := int64(len(u.Rows)), int64(i)
			for _, rows := range []int64{0, 1, 3, 10} {
				for _, several := range []int64{1, 4, 12} {
					mixes, errors := mixedMatrix(max(1, dimension), rows, seed, several), mixedMatrix(cols, (seed*3+several)%11, seed+5, 3)
					checkSent(t, u, mixes, errors)
					checkSent(t, u, mixes, impl.Matrix{Cols: cols})
					checkSent(t, u, identity(max(1, dimension)), errors)
				}
			}
		}
	}
	// As many rows as there can be, of both.
	checkSent(t, identity(10), identity(10), mixedMatrix(10, 10, 3, 12))
	checkSent(t, identity(10), mixedMatrix(10, 10, 3, 5), mixedMatrix(10, 10, 4, 5))
}

// TestNothingIsSentOfSpacesWithoutRows has mixes with any number of columns.
func TestNothingIsSentOfSpacesWithoutRows(t *testing.T) {
	for cols := int64(1); cols <= 10; cols++ {
		none := impl.Matrix{Cols: cols}
		for _, mixes := range []impl.Matrix{{Cols: 1}, {Cols: 10}, {Cols: 1, Rows: []int64{1, 0, 1}}, identity(10), identity(cols), mixedMatrix(7, 10, 2, 12)} {
			matrix(t, fmt.Sprint("nothing of ", cols, mixes), none)(impl.SendThrough(none, mixes, none))
			for _, errors := range []impl.Matrix{identity(cols), mixedMatrix(cols, 5, 9, 4), {Cols: cols, Rows: []int64{0, 0}}, {Cols: cols, Rows: []int64{1, 1}}} {
				want := spaceOfRows(cols, setOf(errors.Rows).list)
				matrix(t, fmt.Sprint("errors alone ", errors, mixes), want)(impl.SendThrough(none, mixes, errors))
			}
		}
	}
}

func TestWhatIsReceivedIsKnown(t *testing.T) {
	u := impl.Matrix{Cols: 4, Rows: []int64{5, 10}}
	none := impl.Matrix{Cols: 4}
	matrix(t, "everything", u)(impl.SendThrough(u, identity(2), none))
	matrix(t, "both rows added", impl.Matrix{Cols: 4, Rows: []int64{15}})(impl.SendThrough(u, impl.Matrix{Cols: 2, Rows: []int64{3}}, none))
	matrix(t, "an error", impl.Matrix{Cols: 4, Rows: []int64{7, 8}})(impl.SendThrough(u, impl.Matrix{Cols: 2, Rows: []int64{3}}, impl.Matrix{Cols: 4, Rows: []int64{8}}))
	matrix(t, "an error that is sent, too", impl.Matrix{Cols: 4, Rows: []int64{15}})(impl.SendThrough(u, impl.Matrix{Cols: 2, Rows: []int64{3, 0, 3}}, impl.Matrix{Cols: 4, Rows: []int64{15}}))
	matrix(t, "no mixes", none)(impl.SendThrough(u, impl.Matrix{Cols: 2}, none))
	matrix(t, "mixes of 0", none)(impl.SendThrough(u, impl.Matrix{Cols: 2, Rows: []int64{0, 0}}, impl.Matrix{Cols: 4, Rows: []int64{0}}))
}

func TestMixesAndErrorsThatDoNotFit(t *testing.T) {
	for cols := int64(1); cols <= 10; cols++ {
		for _, u := range append(someSpaces(cols)[:8], identity(cols)) {
			dimension := int64(len(u.Rows))
			for other := int64(1); other <= 10; other++ {
				if other != dimension && dimension > 0 {
					for _, mixes := range []impl.Matrix{{Cols: other}, identity(other)} {
						for _, errors := range []impl.Matrix{{Cols: cols}, identity(cols), {Cols: other}} {
							refusedMatrix(t, fmt.Sprint("mixes ", u, mixes, errors), impl.ErrRange)(impl.SendThrough(u, mixes, errors))
						}
					}
				}
				if other != cols {
					for _, errors := range []impl.Matrix{{Cols: other}, identity(other), {Cols: other, Rows: []int64{0}}} {
						refusedMatrix(t, fmt.Sprint("errors ", u, errors), impl.ErrRange)(impl.SendThrough(u, identity(max(1, dimension)), errors))
					}
				}
			}
		}
	}
}

func TestNothingIsSentOfNoSpaces(t *testing.T) {
	good := impl.Matrix{Cols: 3, Rows: []int64{1, 2}}
	mixes, errors := identity(2), impl.Matrix{Cols: 3, Rows: []int64{4}}
	for _, a := range noSpaces {
		for _, m := range []impl.Matrix{mixes, identity(max(1, int64(len(a.Rows)))), identity(9)} {
			for _, e := range []impl.Matrix{errors, {Cols: a.Cols}, {Cols: 9}} {
				refusedMatrix(t, fmt.Sprint("no space ", a, m, e), impl.ErrInvalid)(impl.SendThrough(a, m, e))
			}
		}
	}
	for _, a := range noMatrices {
		for _, u := range []impl.Matrix{good, {Cols: 3}, {Cols: 9}, a} {
			// The other ones are wrong as well, or do not fit: what is not valid comes first.
			for _, other := range []impl.Matrix{mixes, errors, identity(9), a} {
				name := fmt.Sprint("no matrix ", a, u, other)
				refusedMatrix(t, name, impl.ErrInvalid)(impl.SendThrough(u, a, other))
				refusedMatrix(t, name, impl.ErrInvalid)(impl.SendThrough(u, other, a))
				refusedMatrix(t, name, impl.ErrInvalid)(impl.SendThrough(a, u, other))
			}
		}
	}
	// Mixes and errors need not be in echelon form.
	for _, a := range noSpaces {
		u := identity(a.Cols)
		checkSent(t, u, a, impl.Matrix{Cols: a.Cols})
		checkSent(t, u, impl.Matrix{Cols: a.Cols}, a)
	}
}

// sentMessage is a message with all rows of its space.
type sentMessage struct {
	message []int64
	set     *rowSet
}

// sentMessages are all messages of a Gabidulin code.
func sentMessages(g impl.Gabidulin) []sentMessage {
	var list []sentMessage
	for _, message := range orderedLists(g.Field, int(g.Dimension)) {
		list = append(list, sentMessage{message, setOf(liftedOf(g.Field, wordOfMessage(g, message)).Rows)})
	}
	return list
}

// checkReceived looks for all messages whose spaces are near enough.
func checkReceived(t *testing.T, g impl.Gabidulin, list []sentMessage, u impl.Matrix) {
	t.Helper()
	name := fmt.Sprint(g, " received ", u)
	set := setOf(u.Rows)
	var near []sentMessage
	for _, sent := range list {
		if sent.set.distance(set) <= lengthOf(g)-g.Dimension {
			near = append(near, sent)
		}
	}
	if len(near) == 0 {
		refusedDecoding(t, name, impl.ErrNotFound)(impl.DecodeLifted(g, u))
		return
	}
	is(t, name+" messages", 1, len(near))
	decoded(t, name, near[0].message, near[0].set.distance(set))(impl.DecodeLifted(g, u))
}

// TestDecodingOfAllSpaces looks at all spaces with up to 4 columns, and at all with 5 and 6 for some Gabidulin codes.
func TestDecodingOfAllSpaces(t *testing.T) {
	codes := slices.Concat(
		withDimensions(impl.Field{Degree: 3, Poly: 13}, [][]int64{{6, 3}, {5, 1, 7}}),
		withDimensions(impl.Field{Degree: 4, Poly: 25}, [][]int64{{9}, {9, 2}}),
		withDimensions(impl.Field{Degree: 5, Poly: 61}, [][]int64{{17}}),
	)
	for _, f := range allFields() {
		for _, g := range someGabidulins(f) {
			if lengthOf(g)+f.Degree <= 4 {
				codes = append(codes, g)
			}
		}
	}
	for _, g := range codes {
		if numberOfMessages(g) > 256 {
			continue
		}
		list := sentMessages(g)
		for _, u := range everySpace(lengthOf(g) + g.Field.Degree) {
			checkReceived(t, g, list, u)
		}
	}
}

// disturbed looks as if it had been drawn by lot: so many rows of a space are sent, and errors with such a rank are added.
func disturbed(t *testing.T, u impl.Matrix, rows, rank, seed int64) impl.Matrix {
	t.Helper()
	field := impl.Field{Degree: int64(len(u.Rows))}
	mixes := impl.Matrix{Cols: field.Degree}
	if rows > 0 {
		mixes.Rows = errorOfRank(field, rows, rows, seed)
	}
	errors := impl.Matrix{Cols: u.Cols}
	if rank > 0 {
		errors.Rows = errorOfRank(impl.Field{Degree: u.Cols}, rank, rank, seed+1)
	}
	checkSent(t, u, mixes, errors)
	return spaceOfRows(u.Cols, setOf(slices.Concat(productRows(u, mixes), errors.Rows)).list)
}

// TestDisturbedSpacesAreDecoded loses rows and adds errors, as many as there may be of both together.
func TestDisturbedSpacesAreDecoded(t *testing.T) {
	for _, f := range allFields() {
		for _, g := range fewGabidulins(f, 1024) {
			for seed, message := range someMessages(g)[:3] {
				u := liftedOf(f, wordOfMessage(g, message))
				most := lengthOf(g) - g.Dimension
				for lost := range most + 1 {
					for rank := range most - lost + 1 {
						v := disturbed(t, u, lengthOf(g)-lost, rank, int64(seed)+lost)
						decoded(t, fmt.Sprint(g, " received ", v), message, distanceOfSpaces(u, v))(impl.DecodeLifted(g, v))
					}
				}
			}
		}
	}
}

// TestSpacesThatAreDisturbedTooMuch loses or adds more.
func TestSpacesThatAreDisturbedTooMuch(t *testing.T) {
	for _, f := range allFields() {
		for _, g := range fewGabidulins(f, 256) {
			if f.Degree < 3 || g.Points[0] == 1 {
				continue
			}
			list := sentMessages(g)
			u := liftedOf(f, wordOfMessage(g, mixedWord(f, g.Dimension, 5)))
			for lost := range lengthOf(g) + 1 {
				for rank := range f.Degree + 1 {
					checkReceived(t, g, list, disturbed(t, u, lengthOf(g)-lost, rank, lost+rank))
				}
			}
			for _, v := range someSpaces(u.Cols)[:10] {
				checkReceived(t, g, list, v)
			}
		}
	}
}

func TestReceivedSpacesThatAreKnown(t *testing.T) {
	f := impl.Field{Degree: 2, Poly: 7}
	g := impl.Gabidulin{Field: f, Points: []int64{1, 2}, Dimension: 1}
	// The message 3 has the word 3, 1, and so the rows 1101 and 0110.
	decoded(t, "everything", []int64{3}, 0)(impl.DecodeLifted(g, impl.Matrix{Cols: 4, Rows: []int64{13, 6}}))
	decoded(t, "one row", []int64{3}, 1)(impl.DecodeLifted(g, impl.Matrix{Cols: 4, Rows: []int64{13}}))
	decoded(t, "both rows and an error", []int64{3}, 1)(impl.DecodeLifted(g, impl.Matrix{Cols: 4, Rows: []int64{5, 6, 8}}))
	refusedDecoding(t, "one row and an error", impl.ErrNotFound)(impl.DecodeLifted(g, impl.Matrix{Cols: 4, Rows: []int64{5, 8}}))
	g.Dimension = 2
	decoded(t, "zeros at the end", []int64{3, 0}, 0)(impl.DecodeLifted(g, impl.Matrix{Cols: 4, Rows: []int64{13, 6}}))
	refusedDecoding(t, "one row of all words", impl.ErrNotFound)(impl.DecodeLifted(g, impl.Matrix{Cols: 4, Rows: []int64{13}}))
	one := impl.Gabidulin{Field: impl.Field{Degree: 1, Poly: 2}, Points: []int64{1}, Dimension: 1}
	decoded(t, "the degree 1", []int64{1}, 0)(impl.DecodeLifted(one, impl.Matrix{Cols: 2, Rows: []int64{3}}))
	decoded(t, "the degree 1 and 0", []int64{0}, 0)(impl.DecodeLifted(one, impl.Matrix{Cols: 2, Rows: []int64{1}}))
	refusedDecoding(t, "the degree 1 and another row", impl.ErrNotFound)(impl.DecodeLifted(one, impl.Matrix{Cols: 2, Rows: []int64{2}}))
}

// TestSpacesOfNoneAndOfAllColumnsAreNotDecoded as they are farther away than what is allowed.
func TestSpacesOfNoneAndOfAllColumnsAreNotDecoded(t *testing.T) {
	for _, f := range allFields() {
		for _, g := range fewGabidulins(f, 4096) {
			cols := lengthOf(g) + f.Degree
			refusedDecoding(t, fmt.Sprint(g, " received nothing"), impl.ErrNotFound)(impl.DecodeLifted(g, impl.Matrix{Cols: cols}))
			refusedDecoding(t, fmt.Sprint(g, " received all"), impl.ErrNotFound)(impl.DecodeLifted(g, identity(cols)))
		}
	}
}

// TestReceivedSpacesOfManyMessages has as many as the limit, and more.
func TestReceivedSpacesOfManyMessages(t *testing.T) {
	for _, f := range allFields() {
		for i, g := range withDimensions(f, someBeginnings(f)) {
			message := mixedWord(f, g.Dimension, int64(i))
			u := liftedOf(f, wordOfMessage(g, message))
			switch number := numberOfMessages(g); {
			case number > 4096:
				for _, v := range []impl.Matrix{u, {Cols: u.Cols}, identity(u.Cols)} {
					refusedDecoding(t, fmt.Sprint(g, " received ", v), impl.ErrLimit)(impl.DecodeLifted(g, v))
				}
			case number > 512:
				decoded(t, fmt.Sprint(g, " received ", u), message, 0)(impl.DecodeLifted(g, u))
				if g.Dimension < lengthOf(g) {
					less := disturbed(t, u, lengthOf(g)-1, 0, 3)
					decoded(t, fmt.Sprint(g, " received ", less), message, 1)(impl.DecodeLifted(g, less))
				}
			}
		}
	}
	g := impl.Gabidulin{Field: impl.Field{Degree: 4, Poly: 25}, Points: []int64{3, 5, 9, 1}, Dimension: 3}
	is(t, "messages", 4096, numberOfMessages(g))
	checkReceived(t, g, sentMessages(g), disturbed(t, liftedOf(g.Field, wordOfMessage(g, []int64{15, 15, 15})), 4, 1, 2))
}

func TestReceivedSpacesWithOtherColumns(t *testing.T) {
	for _, f := range allFields() {
		for _, g := range fewGabidulins(f, math.MaxInt64) {
			for cols := int64(1); cols <= 10; cols++ {
				if cols == lengthOf(g)+f.Degree {
					continue
				}
				for _, u := range []impl.Matrix{{Cols: cols}, identity(cols), {Cols: cols, Rows: []int64{1}}} {
					refusedDecoding(t, fmt.Sprint(g, " received ", u), impl.ErrRange)(impl.DecodeLifted(g, u))
				}
			}
		}
	}
}

func TestReceivedMatricesThatAreNoSpaces(t *testing.T) {
	for _, f := range allFields() {
		for _, g := range append(fewGabidulins(f, math.MaxInt64), allNoGabidulins()[:3]...) {
			cols := lengthOf(g) + f.Degree
			others := []impl.Matrix{{Cols: cols, Rows: []int64{2, 1}}, {Cols: cols, Rows: []int64{1, 0}}, {Cols: cols, Rows: []int64{1 << cols}}}
			for _, a := range slices.Concat(noMatrices, noSpaces, others) {
				refusedDecoding(t, fmt.Sprint(g, " received ", a), impl.ErrInvalid)(impl.DecodeLifted(g, a))
			}
		}
	}
	for _, g := range allNoGabidulins() {
		cols := min(10, max(1, lengthOf(g)+g.Field.Degree))
		for _, u := range []impl.Matrix{{Cols: cols}, identity(cols), identity(1), {Cols: 4, Rows: []int64{13, 6}}} {
			refusedDecoding(t, fmt.Sprint(g, " received ", u), impl.ErrInvalid)(impl.DecodeLifted(g, u))
		}
	}
}
