package tests

import (
	"fmt"
	"math"
	"slices"
	"testing"

	"loop.example/g01144/impl"
)

// Promise 8: rank distances are those of a metric, and ranks are the dimensions of both supports.

func TestExampleOfChapter4(t *testing.T) {
	f, _ := impl.FieldOf(2)
	is(t, "field", impl.Field{Degree: 2, Poly: 7}, f)
	value(t, "rank of 1, 2", 2)(impl.WordRank(f, []int64{1, 2}))
	value(t, "rank of 1, 1", 1)(impl.WordRank(f, []int64{1, 1}))
	c := impl.RankCode{Field: f, Length: 2, Rows: [][]int64{{1, 2}}}
	coded(t, "code of 2, 3", c)(impl.CodeOf(f, 2, [][]int64{{2, 3}}))
	listed(t, "weights", []int64{1, 0, 3})(impl.RankWeights(c))
	value(t, "least rank", 2)(impl.LeastRank(c))
	told(t, "extreme", true, impl.OK)(impl.IsExtreme(c))
	coded(t, "dual", impl.RankCode{Field: f, Length: 2, Rows: [][]int64{{1, 3}}})(impl.DualCode(c))
	value(t, "matrices with 2 rows, 2 columns and the rank 1", 9)(impl.CountRanks(2, 2, 1))
	is(t, "limits", "5 4096 65536", fmt.Sprint(impl.MaxLength, impl.MaxWords, impl.MaxSpread))
}

// someWords are all words of small fields and lengths, and some of all other ones: some of them with few different elements.
func someWords(f impl.Field) [][]int64 {
	var list [][]int64
	for length := int64(1); length <= 5; length++ {
		if f.Degree*length <= 6 {
			list = append(list, orderedLists(f, int(length))...)
			continue
		}
		list = append(list, make([]int64, length), slices.Repeat([]int64{sizeOf(f) - 1}, int(length)))
		for seed := int64(1); seed <= 10; seed++ {
			for several := int64(1); several <= 5; several++ {
				list = append(list, mixedMatrix(f.Degree, length, seed, several).Rows)
			}
		}
	}
	return list
}

func TestMatricesOfWords(t *testing.T) {
	for _, f := range allFields() {
		for _, w := range someWords(f) {
			matrix(t, fmt.Sprint(f, " matrix of ", w), impl.Matrix{Cols: f.Degree, Rows: w})(impl.WordMatrix(f, w))
		}
	}
}

func TestRanksAreDimensionsOfBothSupports(t *testing.T) {
	for _, f := range allFields() {
		for _, w := range someWords(f) {
			name := fmt.Sprint(f, " of ", w)
			rows := spaceOfRows(f.Degree, sumsOf(impl.Matrix{Rows: w}))
			columns := spaceOfRows(int64(len(w)), sumsOf(impl.Matrix{Rows: columnsOf(f, w)}))
			matrix(t, "row support"+name, rows)(impl.RowSupport(f, w))
			matrix(t, "column support"+name, columns)(impl.ColumnSupport(f, w))
			value(t, "rank"+name, int64(len(rows.Rows)))(impl.WordRank(f, w))
			value(t, "rank"+name, int64(len(columns.Rows)))(impl.WordRank(f, w))
			is(t, "rank and dimension"+name, int64(len(rows.Rows)), rankOfWord(w))
		}
	}
}

// TestRowsAndColumnsDiffer has words whose matrices are not the same when they are turned.
func TestRowsAndColumnsDiffer(t *testing.T) {
	f := impl.Field{Degree: 2, Poly: 7}
	matrix(t, "matrix of 1, 1, 2", impl.Matrix{Cols: 2, Rows: []int64{1, 1, 2}})(impl.WordMatrix(f, []int64{1, 1, 2}))
	matrix(t, "rows of 1, 1, 2", impl.Matrix{Cols: 2, Rows: []int64{1, 2}})(impl.RowSupport(f, []int64{1, 1, 2}))
	matrix(t, "columns of 1, 1, 2", impl.Matrix{Cols: 3, Rows: []int64{3, 4}})(impl.ColumnSupport(f, []int64{1, 1, 2}))
	f = impl.Field{Degree: 3, Poly: 11}
	matrix(t, "rows of 6, 0", impl.Matrix{Cols: 3, Rows: []int64{6}})(impl.RowSupport(f, []int64{6, 0}))
	matrix(t, "columns of 6, 0", impl.Matrix{Cols: 2, Rows: []int64{1}})(impl.ColumnSupport(f, []int64{6, 0}))
	matrix(t, "rows of 5, 4, 5, 1", impl.Matrix{Cols: 3, Rows: []int64{1, 4}})(impl.RowSupport(f, []int64{5, 4, 5, 1}))
	matrix(t, "columns of 5, 4, 5, 1", impl.Matrix{Cols: 4, Rows: []int64{13, 10}})(impl.ColumnSupport(f, []int64{5, 4, 5, 1}))
}

func TestWordsOfOneElement(t *testing.T) {
	for _, f := range allFields() {
		value(t, fmt.Sprint(f, " rank of 0"), 0)(impl.WordRank(f, []int64{0}))
		matrix(t, fmt.Sprint(f, " rows of 0"), impl.Matrix{Cols: f.Degree})(impl.RowSupport(f, []int64{0}))
		matrix(t, fmt.Sprint(f, " columns of 0"), impl.Matrix{Cols: 1})(impl.ColumnSupport(f, []int64{0}))
		for a := int64(1); a < sizeOf(f); a++ {
			value(t, fmt.Sprint(f, " rank of ", a), 1)(impl.WordRank(f, []int64{a}))
			matrix(t, fmt.Sprint(f, " rows of ", a), impl.Matrix{Cols: f.Degree, Rows: []int64{a}})(impl.RowSupport(f, []int64{a}))
			matrix(t, fmt.Sprint(f, " columns of ", a), impl.Matrix{Cols: 1, Rows: []int64{1}})(impl.ColumnSupport(f, []int64{a}))
		}
	}
}

func TestWordsOfTheDegree1(t *testing.T) {
	for _, poly := range []int64{2, 3} {
		f := impl.Field{Degree: 1, Poly: poly}
		for _, w := range orderedLists(f, 5) {
			value(t, fmt.Sprint(f, " rank of ", w), slices.Max(w))(impl.WordRank(f, w))
		}
		matrix(t, "columns", impl.Matrix{Cols: 5, Rows: []int64{22}})(impl.ColumnSupport(f, []int64{0, 1, 1, 0, 1}))
		matrix(t, "rows", impl.Matrix{Cols: 1, Rows: []int64{1}})(impl.RowSupport(f, []int64{0, 1, 1, 0, 1}))
	}
}

func TestRanksOfLongWords(t *testing.T) {
	value(t, "the greatest rank", 5)(impl.WordRank(impl.Field{Degree: 5, Poly: 37}, []int64{1, 2, 4, 8, 16}))
	value(t, "a sum of others", 4)(impl.WordRank(impl.Field{Degree: 5, Poly: 37}, []int64{1, 2, 4, 8, 15}))
	value(t, "longer than the degree", 4)(impl.WordRank(impl.Field{Degree: 4, Poly: 19}, []int64{1, 2, 4, 8, 15}))
	value(t, "longer than the degree", 3)(impl.WordRank(impl.Field{Degree: 3, Poly: 11}, []int64{7, 6, 5, 4, 3}))
}

func TestDistancesOfWords(t *testing.T) {
	for _, f := range allFields() {
		for length := int64(1); length <= 5; length++ {
			for seed := int64(1); seed <= 12; seed++ {
				u, w := mixedWord(f, length, seed), mixedMatrix(f.Degree, length, seed*3, 1+seed%4).Rows
				value(t, fmt.Sprint(f, " distance of ", u, w), rankOfWord(sumOfWords(u, w)))(impl.WordDistance(f, u, w))
				value(t, fmt.Sprint(f, " distance of ", w, " twice"), 0)(impl.WordDistance(f, w, w))
			}
		}
	}
}

func TestRankDistancesAreThoseOfAMetric(t *testing.T) {
	for f, length := range map[impl.Field]int{{Degree: 1, Poly: 2}: 4, {Degree: 2, Poly: 7}: 2, {Degree: 4, Poly: 31}: 1} {
		all := orderedLists(f, length)
		for _, u := range all {
			for _, v := range all {
				there, _ := impl.WordDistance(f, u, v)
				value(t, fmt.Sprint(f, " back ", u, v), there)(impl.WordDistance(f, v, u))
				is(t, fmt.Sprint(f, " the same ", u, v), slices.Equal(u, v), there == 0)
				for _, w := range all {
					one, _ := impl.WordDistance(f, u, w)
					two, _ := impl.WordDistance(f, w, v)
					is(t, fmt.Sprint(f, " no way round is shorter ", u, w, v), true, there <= one+two)
					value(t, fmt.Sprint(f, " both moved ", u, v, w), there)(impl.WordDistance(f, sumOfWords(u, w), sumOfWords(v, w)))
				}
			}
		}
	}
}

func TestMultiplesHaveTheSameRank(t *testing.T) {
	for _, f := range allFields() {
		for seed := int64(1); seed <= 5; seed++ {
			w := mixedMatrix(f.Degree, 4, seed, 1+seed%4).Rows
			for a := int64(1); a < sizeOf(f); a++ {
				value(t, fmt.Sprint(f, a, " times ", w), rankOfWord(w))(impl.WordRank(f, multipleOfWord(f, a, w)))
			}
		}
	}
}

// refuseWord asks all functions of this promise.
func refuseWord(t *testing.T, name string, want int64, f impl.Field, w []int64) {
	t.Helper()
	refusedMatrix(t, name+" WordMatrix", want)(impl.WordMatrix(f, w))
	refused(t, name+" WordRank", want)(impl.WordRank(f, w))
	refusedMatrix(t, name+" RowSupport", want)(impl.RowSupport(f, w))
	refusedMatrix(t, name+" ColumnSupport", want)(impl.ColumnSupport(f, w))
	for _, other := range [][]int64{w, {0}, {1, 1}, make([]int64, len(w))} {
		refused(t, name+" WordDistance", want)(impl.WordDistance(f, w, other))
		refused(t, name+" WordDistance", want)(impl.WordDistance(f, other, w))
	}
}

func TestListsThatAreNoWords(t *testing.T) {
	for _, f := range allFields() {
		for _, w := range noWords(f) {
			refuseWord(t, fmt.Sprint(f, w), impl.ErrRange, f, w)
		}
	}
}

func TestNoFieldsForWords(t *testing.T) {
	for _, f := range noFields {
		for _, w := range [][]int64{{}, {0}, {1, 1}, {-1}, {99}, {1, 1, 1, 1, 1, 1}, {math.MinInt64}} {
			refuseWord(t, fmt.Sprint("no field ", f, w), impl.ErrInvalid, f, w)
		}
	}
}

func TestDistancesOfDifferentLengths(t *testing.T) {
	for _, f := range allFields() {
		for one := int64(1); one <= 5; one++ {
			for two := int64(1); two <= 5; two++ {
				if one != two {
					refused(t, fmt.Sprint(f, " lengths ", one, two), impl.ErrRange)(impl.WordDistance(f, make([]int64, one), make([]int64, two)))
				}
			}
		}
	}
}
