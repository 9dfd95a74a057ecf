package tests

import (
	"fmt"
	"math"
	"slices"
	"testing"

	"loop.example/g01144/impl"
)

// Promise 14: errors that are known in part are undone up to twice as much of them.

// knowing is one of both ways to know of an error.
type knowing struct {
	name   string
	decode func(g impl.Gabidulin, w []int64, u impl.Matrix) ([]int64, int64)
	// columns returns how many columns the space has.
	columns func(g impl.Gabidulin) int64
	// rows returns what has to be in the space, if a word is what is known.
	rows func(g impl.Gabidulin, w []int64) []int64
	// part returns a word that is known, and looks as if it had been drawn by lot.
	part func(g impl.Gabidulin, u impl.Matrix, seed int64) []int64
}

// bothKnowings are that of the columns and that of the rows.
func bothKnowings() []knowing {
	sums := func(u impl.Matrix, number, seed int64) []int64 {
		list := mixedMatrix(10, number, seed, 8).Rows
		for i, chosen := range list {
			list[i] = sumOf(u.Rows, chosen)
		}
		return list
	}
	return []knowing{
		{
			name:    " erased ",
			decode:  impl.DecodeErased,
			columns: lengthOf,
			rows:    func(g impl.Gabidulin, w []int64) []int64 { return columnsOf(g.Field, w) },
			part: func(g impl.Gabidulin, u impl.Matrix, seed int64) []int64 {
				// The columns of columns are rows.
				return columnsOf(impl.Field{Degree: lengthOf(g)}, sums(u, g.Field.Degree, seed))
			},
		},
		{
			name:    " hinted ",
			decode:  impl.DecodeHinted,
			columns: func(g impl.Gabidulin) int64 { return g.Field.Degree },
			rows:    func(g impl.Gabidulin, w []int64) []int64 { return w },
			part: func(g impl.Gabidulin, u impl.Matrix, seed int64) []int64 {
				return sums(u, lengthOf(g), seed)
			},
		},
	}
}

// dimensionsOf is the dimension of the space of all sums of some rows.
func dimensionsOf(rows ...[]int64) int64 {
	return dimensionOf(sumsOf(impl.Matrix{Rows: slices.Concat(rows...)}))
}

// isKnown asks whether all rows of a word are sums of those of a space.
func (k knowing) isKnown(g impl.Gabidulin, w []int64, u impl.Matrix) bool {
	return dimensionsOf(u.Rows, k.rows(g, w)) == int64(len(u.Rows))
}

// outside is the dimension of what a word has outside of a space.
func (k knowing) outside(g impl.Gabidulin, w []int64, u impl.Matrix) int64 {
	return dimensionsOf(u.Rows, k.rows(g, w)) - int64(len(u.Rows))
}

// leastRests has the least rank, for each word as printed, that a word that is known leaves of it: all of them are tried, as the document says.
func (k knowing) leastRests(g impl.Gabidulin, u impl.Matrix) map[string]int64 {
	words := orderedLists(g.Field, len(g.Points))
	least := map[string]int64{}
	for _, part := range words {
		if !k.isKnown(g, part, u) {
			continue
		}
		for _, w := range words {
			name, rank := fmt.Sprint(w), rankOfWord(sumOfWords(w, part))
			if before, is := least[name]; !is || rank < before {
				least[name] = rank
			}
		}
	}
	return least
}

// missing is what the points have more than both dimensions.
func missing(g impl.Gabidulin, u impl.Matrix) int64 {
	return lengthOf(g) - g.Dimension - int64(len(u.Rows))
}

// checkKnown lists all messages that leave a rank that is small enough.
func (k knowing) checkKnown(t *testing.T, g impl.Gabidulin, w []int64, u impl.Matrix, rest func(w []int64) int64) {
	t.Helper()
	name := fmt.Sprint(g, k.name, u, w)
	if missing(g, u) < 0 {
		refusedList(t, name, impl.ErrState)(k.decode(g, w, u))
		return
	}
	var fits [][]int64
	for _, message := range orderedLists(g.Field, int(g.Dimension)) {
		if rest(sumOfWords(w, wordOfMessage(g, message))) <= missing(g, u)/2 {
			fits = append(fits, message)
		}
	}
	if len(fits) == 0 {
		refusedList(t, name, impl.ErrNotFound)(k.decode(g, w, u))
		return
	}
	is(t, name+" messages", 1, len(fits))
	listed(t, name, fits[0])(k.decode(g, w, u))
}

// TestKnownErrorsOfSmallGabidulins looks at all words, and at all spaces.
func TestKnownErrorsOfSmallGabidulins(t *testing.T) {
	for _, f := range allFields() {
		if f.Degree > 3 {
			continue
		}
		for _, points := range [][]int64{{1}, {sizeOf(f) - 1}, {2, 1}, {1, 3}, {3, 5, 7}} {
			if length := len(points); int64(length) > f.Degree {
				continue
			}
			for _, k := range bothKnowings() {
				g := impl.Gabidulin{Field: f, Points: points}
				for _, u := range smallSpaces(k.columns(g)) {
					rests := k.leastRests(g, u)
					for _, g := range withDimensions(f, [][]int64{points}) {
						if numberOfMessages(g) > 64 {
							continue
						}
						for _, w := range orderedLists(f, len(points)) {
							k.checkKnown(t, g, w, u, func(w []int64) int64 { return rests[fmt.Sprint(w)] })
						}
					}
				}
			}
		}
	}
}

// TestRestsAreWhatIsOutside holds the rests of the larger ones below.
func TestRestsAreWhatIsOutside(t *testing.T) {
	for _, points := range [][]int64{{1, 2, 4}, {1, 2}} {
		g := impl.Gabidulin{Field: impl.Field{Degree: 3, Poly: 11}, Points: points, Dimension: 1}
		for _, k := range bothKnowings() {
			for _, u := range smallSpaces(k.columns(g)) {
				rests := k.leastRests(g, u)
				for _, w := range orderedLists(g.Field, len(points)) {
					is(t, fmt.Sprint(k.name, u, w), rests[fmt.Sprint(w)], k.outside(g, w, u))
				}
			}
		}
	}
}

// someSpacesOfAll are some spaces of each dimension.
func someSpacesOfAll(cols int64) []impl.Matrix {
	list := []impl.Matrix{identity(cols)}
	for dimension := range cols {
		for seed := range int64(2) {
			rows := errorOfRank(impl.Field{Degree: cols}, cols, dimension, seed+dimension*5)
			list = append(list, spaceOfRows(cols, sumsOf(impl.Matrix{Rows: rows})))
		}
	}
	return list
}

// TestKnownErrorsAreUndone puts in a part that is known, and another one of at most the rank that is left.
func TestKnownErrorsAreUndone(t *testing.T) {
	for _, f := range allFields() {
		for _, g := range fewGabidulins(f, math.MaxInt64) {
			for _, k := range bothKnowings() {
				for _, u := range someSpacesOfAll(k.columns(g)) {
					for seed, message := range someMessages(g) {
						w := sumOfWords(wordOfMessage(g, message), k.part(g, u, int64(seed)))
						if missing(g, u) < 0 {
							refusedList(t, fmt.Sprint(g, k.name, u, w), impl.ErrState)(k.decode(g, w, u))
							continue
						}
						for rank := range missing(g, u)/2 + 1 {
							mixed := sumOfWords(w, errorOfRank(f, lengthOf(g), rank, int64(seed)))
							listed(t, fmt.Sprint(g, k.name, u, mixed), message)(k.decode(g, mixed, u))
						}
					}
				}
			}
		}
	}
}

// TestErrorsOfAsMuchAsIsMissingAreUndone has errors that are known of all of the rank that the words of messages differ in, less 1.
func TestErrorsOfAsMuchAsIsMissingAreUndone(t *testing.T) {
	f := impl.Field{Degree: 5, Poly: 41}
	for _, k := range bothKnowings() {
		for dimension := int64(1); dimension <= 5; dimension++ {
			g := impl.Gabidulin{Field: f, Points: []int64{3, 6, 12, 24, 16}, Dimension: dimension}
			u := impl.Matrix{Cols: 5, Rows: []int64{1, 2, 4, 8}[:5-dimension]}
			seed := int64(0)
			for rankOfWord(k.part(g, u, seed)) < 5-dimension {
				seed++
			}
			w := k.part(g, u, seed)
			listed(t, fmt.Sprint(g, k.name, w), make([]int64, dimension))(k.decode(g, w, u))
			message := slices.Repeat([]int64{30}, int(dimension))
			listed(t, fmt.Sprint(g, k.name, w, " and 30"), message)(k.decode(g, sumOfWords(w, wordOfMessage(g, message)), u))
		}
	}
}

// TestKnownErrorsOfLargeGabidulins has words with all ranks of what is not known.
func TestKnownErrorsOfLargeGabidulins(t *testing.T) {
	for _, f := range allFields() {
		for _, g := range fewGabidulins(f, 256) {
			if f.Degree < 4 || lengthOf(g) < 3 || g.Points[0] == 1 {
				continue
			}
			for _, k := range bothKnowings() {
				for _, u := range someSpacesOfAll(k.columns(g)) {
					w := sumOfWords(wordOfMessage(g, mixedWord(f, g.Dimension, 5)), k.part(g, u, 17))
					for rank := range missing(g, u) + 1 {
						mixed := sumOfWords(w, errorOfRank(f, lengthOf(g), rank, 3))
						k.checkKnown(t, g, mixed, u, func(w []int64) int64 { return k.outside(g, w, u) })
					}
				}
			}
		}
	}
}

// TestSpacesOfTheDimension0 leave nothing but DecodeGabidulin.
func TestSpacesOfTheDimension0(t *testing.T) {
	for _, f := range allFields() {
		for _, g := range fewGabidulins(f, math.MaxInt64) {
			for rank := range lengthOf(g) + 1 {
				w := errorOfRank(f, lengthOf(g), rank, 2)
				message, _, code := impl.DecodeGabidulin(g, w)
				for _, k := range bothKnowings() {
					got, gotCode := k.decode(g, w, impl.Matrix{Cols: k.columns(g)})
					is(t, fmt.Sprint(g, k.name, w), fmt.Sprint(message, code), fmt.Sprint(got, gotCode))
				}
			}
		}
	}
}

func TestSpacesOfAllColumns(t *testing.T) {
	for _, f := range allFields() {
		for _, g := range fewGabidulins(f, math.MaxInt64) {
			for _, k := range bothKnowings() {
				u := identity(k.columns(g))
				refusedList(t, fmt.Sprint(g, k.name, u), impl.ErrState)(k.decode(g, g.Points, u))
				refusedList(t, fmt.Sprint(g, k.name, u), impl.ErrRange)(k.decode(g, g.Points[1:], u))
			}
		}
	}
}

func TestSpacesWithOtherColumns(t *testing.T) {
	for _, f := range allFields() {
		for _, g := range fewGabidulins(f, math.MaxInt64) {
			for _, k := range bothKnowings() {
				for cols := int64(1); cols <= 10; cols++ {
					if cols == k.columns(g) {
						continue
					}
					for _, u := range []impl.Matrix{{Cols: cols}, {Cols: cols, Rows: []int64{1}}, identity(cols)} {
						refusedList(t, fmt.Sprint(g, k.name, u), impl.ErrRange)(k.decode(g, g.Points, u))
					}
				}
			}
		}
	}
}

func TestKnownErrorsOfOtherWords(t *testing.T) {
	for _, f := range allFields() {
		for _, g := range fewGabidulins(f, math.MaxInt64) {
			for _, k := range bothKnowings() {
				cols := k.columns(g)
				for _, w := range otherWords(f, lengthOf(g)) {
					for _, u := range []impl.Matrix{{Cols: cols}, identity(cols), {Cols: cols + 1}} {
						refusedList(t, fmt.Sprint(g, k.name, u, w), impl.ErrRange)(k.decode(g, w, u))
					}
				}
			}
		}
	}
}

func TestKnownErrorsWithoutSpaces(t *testing.T) {
	for _, f := range allFields() {
		g := impl.Gabidulin{Field: f, Points: someBases(f)[0], Dimension: 1}
		for _, k := range bothKnowings() {
			for _, u := range slices.Concat(noMatrices, noSpaces, []impl.Matrix{{Cols: f.Degree, Rows: []int64{0}}, {Cols: f.Degree, Rows: []int64{1, 1}}}) {
				for _, w := range [][]int64{g.Points, nil, {-1}, make([]int64, 6)} {
					refusedList(t, fmt.Sprint(g, k.name, u, w), impl.ErrInvalid)(k.decode(g, w, u))
				}
			}
		}
	}
}

func TestKnownErrorsOfNoGabidulins(t *testing.T) {
	for _, g := range allNoGabidulins() {
		length := lengthOf(g)
		for _, k := range bothKnowings() {
			for _, u := range []impl.Matrix{{Cols: max(1, min(10, length))}, {Cols: max(1, min(10, g.Field.Degree))}, {Cols: 2, Rows: []int64{1, 2}}, {Cols: 9}, {}} {
				for _, w := range [][]int64{g.Points, make([]int64, length), nil, {-1}} {
					refusedList(t, fmt.Sprint(g, k.name, u, w), impl.ErrInvalid)(k.decode(g, w, u))
				}
			}
		}
	}
}

func TestKnownErrorsThatAreKnown(t *testing.T) {
	f := impl.Field{Degree: 3, Poly: 11}
	g := impl.Gabidulin{Field: f, Points: []int64{1, 2, 4}, Dimension: 1}
	// The error 5, 5, 0 has the column 3 alone: twice.
	listed(t, "a column", []int64{3})(impl.DecodeErased(g, []int64{6, 3, 7}, impl.Matrix{Cols: 3, Rows: []int64{3}}))
	listed(t, "two columns", []int64{3})(impl.DecodeErased(g, []int64{6, 3, 7}, impl.Matrix{Cols: 3, Rows: []int64{1, 2}}))
	// The error 1, 2, 3 has the rank 2, and no third row.
	decoded(t, "two rows that are not known, near another word", []int64{2}, 1)(impl.DecodeGabidulin(g, []int64{2, 4, 4}))
	listed(t, "two rows", []int64{3})(impl.DecodeHinted(g, []int64{2, 4, 4}, impl.Matrix{Cols: 3, Rows: []int64{1, 2}}))
	refusedList(t, "another row", impl.ErrNotFound)(impl.DecodeHinted(g, []int64{2, 4, 4}, impl.Matrix{Cols: 3, Rows: []int64{4}}))
}
