package tests

import (
	"fmt"
	"math"
	"slices"
	"testing"

	"loop.example/g01144/impl"
)

// What the tests of chapter 5 hold the program against: values of linear polynomials, lists of all messages, and words of errors.

// pointLists are all lists of so many elements of which no sum is 0, in the order of lists.
func pointLists(f impl.Field, length int) [][]int64 {
	return slices.DeleteFunc(orderedLists(f, length), func(list []int64) bool { return !independent(list) })
}

// someBeginnings are the beginnings of some bases.
func someBeginnings(f impl.Field) [][]int64 {
	var list [][]int64
	for _, basis := range someBases(f) {
		for length := 1; length <= len(basis); length++ {
			list = append(list, slices.Clone(basis[:length]))
		}
	}
	return list
}

// withDimensions are the Gabidulin codes with some points, and with all dimensions.
func withDimensions(f impl.Field, lists [][]int64) []impl.Gabidulin {
	var list []impl.Gabidulin
	for _, points := range lists {
		for dimension := range points {
			list = append(list, impl.Gabidulin{Field: f, Points: points, Dimension: int64(dimension + 1)})
		}
	}
	return list
}

// someGabidulins are all Gabidulin codes of a small field, and some of all lengths and dimensions of the others.
func someGabidulins(f impl.Field) []impl.Gabidulin {
	lists := someBeginnings(f)
	for length := 1; length <= map[int64]int{1: 1, 2: 2, 3: 3, 4: 2, 5: 1}[f.Degree]; length++ {
		lists = append(lists, pointLists(f, length)...)
	}
	return withDimensions(f, lists)
}

// fewGabidulins have the beginnings of some bases as points, and at most so many messages.
func fewGabidulins(f impl.Field, most int64) []impl.Gabidulin {
	return slices.DeleteFunc(withDimensions(f, someBeginnings(f)), func(g impl.Gabidulin) bool { return numberOfMessages(g) > most })
}

// noGabidulins are no Gabidulin codes of a field, each for a reason of its own.
func noGabidulins(f impl.Field) []impl.Gabidulin {
	units := someBases(f)[0]
	list := []impl.Gabidulin{
		{Field: f},
		{Field: f, Dimension: 1},
		{Field: f, Points: []int64{0}, Dimension: 1},
		{Field: f, Points: []int64{1, 1}, Dimension: 1},
		{Field: f, Points: []int64{1, 0}, Dimension: 2},
		{Field: f, Points: append(slices.Clone(units), 1), Dimension: 1},
		{Field: f, Points: append([]int64{sizeOf(f) - 1}, units...), Dimension: 2},
		{Field: f, Points: []int64{1, 1, 1, 1, 1, 1}, Dimension: 3},
		{Field: f, Points: make([]int64, 6), Dimension: 1},
	}
	if f.Degree > 1 {
		list = append(list, impl.Gabidulin{Field: f, Points: []int64{1, 2, 3}, Dimension: 1}, impl.Gabidulin{Field: f, Points: []int64{2, 2}, Dimension: 2})
	}
	if f.Degree > 3 {
		list = append(list, impl.Gabidulin{Field: f, Points: []int64{8, 4, 2, 14}, Dimension: 1})
	}
	for _, points := range someBeginnings(f)[:f.Degree] {
		for _, dimension := range []int64{0, -1, int64(len(points)) + 1, 1 << 32, math.MaxInt64, math.MinInt64} {
			list = append(list, impl.Gabidulin{Field: f, Points: points, Dimension: dimension})
		}
		for _, points := range noElementAt(f, int64(len(points))) {
			list = append(list, impl.Gabidulin{Field: f, Points: points, Dimension: 1})
		}
	}
	return list
}

// gabidulinsOfNoFields would be Gabidulin codes, if they had a field.
func gabidulinsOfNoFields() []impl.Gabidulin {
	var list []impl.Gabidulin
	for _, f := range noFields {
		list = append(list, impl.Gabidulin{Field: f, Points: []int64{1}, Dimension: 1}, impl.Gabidulin{Field: f, Points: []int64{1, 2}, Dimension: 1})
	}
	return list
}

// allNoGabidulins are no Gabidulin codes of any field.
func allNoGabidulins() []impl.Gabidulin {
	list := gabidulinsOfNoFields()
	for _, f := range allFields() {
		list = append(list, noGabidulins(f)...)
	}
	return list
}

// lengthOf is the number of points.
func lengthOf(g impl.Gabidulin) int64 {
	return int64(len(g.Points))
}

// numberOfMessages has as many factors as there are coefficients.
func numberOfMessages(g impl.Gabidulin) int64 {
	return 1 << (g.Field.Degree * g.Dimension)
}

// wordOfMessage has the values of the message at the points.
func wordOfMessage(g impl.Gabidulin, message []int64) []int64 {
	var w []int64
	for _, x := range g.Points {
		w = append(w, valueOfLinear(g.Field, message, x))
	}
	return w
}

// codeOfPoints picks the rows of the echelon form out of all words.
func codeOfPoints(g impl.Gabidulin) impl.RankCode {
	var words [][]int64
	for _, message := range orderedLists(g.Field, int(g.Dimension)) {
		words = append(words, wordOfMessage(g, message))
	}
	return impl.RankCode{Field: g.Field, Length: lengthOf(g), Rows: rowsOfWords(lengthOf(g), words)}
}

// someMessages are some messages, among them those with zeros at the end.
func someMessages(g impl.Gabidulin) [][]int64 {
	list := [][]int64{make([]int64, g.Dimension), slices.Repeat([]int64{sizeOf(g.Field) - 1}, int(g.Dimension))}
	for place := range g.Dimension {
		begin := mixedWord(g.Field, g.Dimension, place)
		clear(begin[place+1:])
		begin[place] = 1
		list = append(list, begin)
	}
	return append(list, mixedWord(g.Field, g.Dimension, 11), mixedWord(g.Field, g.Dimension, 23))
}

// errorOfRank looks as if it had been drawn by lot among the words with a rank.
func errorOfRank(f impl.Field, length, rank, seed int64) []int64 {
	for {
		w := mixedMatrix(f.Degree, length, seed, max(rank, 1)).Rows
		if rank == 0 {
			clear(w)
		}
		if rankOfWord(w) == rank {
			return w
		}
		seed += 1000
	}
}

// isWordOf asks whether a word is the sum of rows that its elements at their leads tell.
func isWordOf(c impl.RankCode, w []int64) bool {
	var message []int64
	for _, r := range c.Rows {
		message = append(message, w[leadOfWord(r)])
	}
	return slices.Equal(wordOf(c, message), w)
}

// gabidulin asks for a Gabidulin code and OK.
func gabidulin(t *testing.T, name string, want impl.Gabidulin) func(got impl.Gabidulin, code int64) {
	return func(got impl.Gabidulin, code int64) {
		t.Helper()
		is(t, name, fmt.Sprint(want, impl.OK), fmt.Sprint(got, code))
	}
}

// refusedGabidulin asks for an error and no Gabidulin code.
func refusedGabidulin(t *testing.T, name string, want int64) func(got impl.Gabidulin, code int64) {
	return func(got impl.Gabidulin, code int64) {
		t.Helper()
		is(t, name, fmt.Sprint(impl.Gabidulin{}, want), fmt.Sprint(got, code))
	}
}

// decoded asks for a message, a distance and OK.
func decoded(t *testing.T, name string, want []int64, wantDistance int64) func(got []int64, distance, code int64) {
	return func(got []int64, distance, code int64) {
		t.Helper()
		is(t, name, fmt.Sprint(want, wantDistance, impl.OK), fmt.Sprint(got, distance, code))
	}
}

// refusedDecoding asks for an error, no message and the distance 0.
func refusedDecoding(t *testing.T, name string, want int64) func(got []int64, distance, code int64) {
	return func(got []int64, distance, code int64) {
		t.Helper()
		is(t, name, fmt.Sprint([]int64(nil), 0, want), fmt.Sprint(got, distance, code))
	}
}
