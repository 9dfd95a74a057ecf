package tests

import (
	"fmt"
	"math"
	"slices"
	"testing"

	"loop.example/g01144/impl"
)

// Promise 10: duals are duals, and their numbers of words by ranks follow from those of the code.

// productOfWords adds the products, place by place.
func productOfWords(f impl.Field, u, w []int64) int64 {
	sum := int64(0)
	for i, a := range u {
		sum ^= times(f, a, w[i])
	}
	return sum
}

// dualWords are all words whose products with all words of a code are 0.
func dualWords(c impl.RankCode) [][]int64 {
	var list [][]int64
	for _, w := range orderedLists(c.Field, int(c.Length)) {
		if !slices.ContainsFunc(wordsOfCode(c), func(v []int64) bool { return productOfWords(c.Field, v, w) != 0 }) {
			list = append(list, w)
		}
	}
	return list
}

func TestDualsAmongAllWords(t *testing.T) {
	for f, length := range map[impl.Field]int64{{Degree: 1, Poly: 2}: 4, {Degree: 2, Poly: 7}: 3, {Degree: 3, Poly: 11}: 2, {Degree: 3, Poly: 13}: 2, {Degree: 4, Poly: 31}: 1} {
		for short := int64(1); short <= length; short++ {
			for _, c := range allCodes(f, short) {
				coded(t, fmt.Sprint("dual of ", c), impl.RankCode{Field: f, Length: short, Rows: rowsOfWords(short, dualWords(c))})(impl.DualCode(c))
			}
		}
	}
}

// TestDualsHaveProductsOf0 uses that there is just one code with the dimension of the dual whose rows have the product 0 with those of the code.
func TestDualsHaveProductsOf0(t *testing.T) {
	for _, f := range allFields() {
		for _, c := range someCodes(f) {
			d, code := impl.DualCode(c)
			is(t, fmt.Sprint("dual of ", c), fmt.Sprint(f, c.Length, c.Length, impl.OK), fmt.Sprint(d.Field, d.Length, int64(len(c.Rows)+len(d.Rows)), code))
			is(t, fmt.Sprint("echelon of the dual of ", c), true, isFieldEchelon(d.Rows) && impl.ValidCode(d))
			for _, r := range c.Rows {
				for _, s := range d.Rows {
					is(t, fmt.Sprint(f, " product of ", r, s), 0, productOfWords(f, r, s))
				}
			}
			coded(t, fmt.Sprint("dual of the dual of ", c), c)(impl.DualCode(d))
		}
	}
}

func TestDualsThatAreKnown(t *testing.T) {
	f := impl.Field{Degree: 2, Poly: 7}
	coded(t, "dual of 1, 2, 0", impl.RankCode{Field: f, Length: 3, Rows: [][]int64{{1, 3, 0}, {0, 0, 1}}})(impl.DualCode(impl.RankCode{Field: f, Length: 3, Rows: [][]int64{{1, 2, 0}}}))
	coded(t, "dual of 1, 2, 3", impl.RankCode{Field: f, Length: 3, Rows: [][]int64{{1, 0, 2}, {0, 1, 3}}})(impl.DualCode(impl.RankCode{Field: f, Length: 3, Rows: [][]int64{{1, 2, 3}}}))
	for _, f := range allFields() {
		for length := int64(1); length <= 5; length++ {
			none, whole := impl.RankCode{Field: f, Length: length}, wholeCode(f, length)
			coded(t, fmt.Sprint("dual of ", none), whole)(impl.DualCode(none))
			coded(t, fmt.Sprint("dual of ", whole), none)(impl.DualCode(whole))
		}
	}
}

func TestWeights(t *testing.T) {
	for _, f := range allFields() {
		for _, c := range codesToList(f, 4096) {
			listed(t, fmt.Sprint("weights of ", c), weightsOfWords(f, c.Length, wordsOfCode(c)))(impl.RankWeights(c))
		}
		for length := int64(1); length <= 5; length++ {
			want := make([]int64, min(length, f.Degree)+1)
			want[0] = 1
			listed(t, fmt.Sprint(f, length, " weights without rows"), want)(impl.RankWeights(impl.RankCode{Field: f, Length: length}))
		}
	}
}

func TestWeightsOfManyWords(t *testing.T) {
	c := impl.RankCode{Field: impl.Field{Degree: 4, Poly: 19}, Length: 5, Rows: [][]int64{{1, 0, 0, 2, 3}, {0, 1, 0, 4, 5}, {0, 0, 1, 8, 7}}}
	listed(t, "4096 words", weightsOfWords(c.Field, 5, wordsOfCode(c)))(impl.RankWeights(c))
	// Each matrix with 3 columns and 4 rows is a word.
	listed(t, "all words", []int64{1, 105, 1470, 2520})(impl.RankWeights(wholeCode(impl.Field{Degree: 3, Poly: 11}, 4)))
	for _, c := range codesOverTheLimit() {
		refusedList(t, fmt.Sprint("weights of ", c), impl.ErrLimit)(impl.RankWeights(c))
	}
}

func TestDualsAndWeightsOfNoCodes(t *testing.T) {
	for _, c := range allNoCodes() {
		refusedCode(t, fmt.Sprint("dual of ", c), impl.ErrInvalid)(impl.DualCode(c))
		refusedList(t, fmt.Sprint("weights of ", c), impl.ErrInvalid)(impl.RankWeights(c))
	}
	tooMany := impl.RankCode{Field: impl.Field{Degree: 5, Poly: 37}, Length: 3, Rows: [][]int64{{1, 0, 0}, {0, 1, 0}, {0, 1, 1}}}
	refusedList(t, "no code with too many words", impl.ErrInvalid)(impl.RankWeights(tooMany))
}

func TestCountRanks(t *testing.T) {
	for rows := int64(1); rows <= 5; rows++ {
		for cols := int64(1); cols <= 5; cols++ {
			all := int64(0)
			for rank := int64(0); rank <= 6; rank++ {
				name := fmt.Sprint("matrices with ", rows, cols, rank)
				number, code := impl.CountRanks(rows, cols, rank)
				all += number
				is(t, name, 0, code)
				is(t, name, matricesWithRank(rows, cols, rank), number)
			}
			is(t, fmt.Sprint("matrices with ", rows, cols), int64(1)<<(rows*cols), all)
			value(t, "the greatest rank", 0)(impl.CountRanks(rows, cols, math.MaxInt64))
		}
	}
	value(t, "5, 5 and 5", 9999360)(impl.CountRanks(5, 5, 5))
}

// matricesWithRank counts lists of rows without a sum 0 of both kinds, and divides by those of the square in the middle.
func matricesWithRank(rows, cols, rank int64) int64 {
	if rank > rows || rank > cols {
		return 0
	}
	above, below := int64(1), int64(1)
	for i := range rank {
		above *= (1<<rows - 1<<i) * (1<<cols - 1<<i)
		below *= 1<<rank - 1<<i
	}
	return above / below
}

// TestRanksAreCounted looks at all matrices.
func TestRanksAreCounted(t *testing.T) {
	for cols := int64(1); cols <= 5; cols++ {
		for rows := int64(1); rows*cols <= 10 && rows <= 5; rows++ {
			counted := make([]int64, 7)
			for _, a := range matricesOf(cols, rows) {
				counted[rankOfWord(a.Rows)]++
			}
			for rank, number := range counted {
				value(t, fmt.Sprint("matrices with ", rows, cols, rank), number)(impl.CountRanks(rows, cols, int64(rank)))
			}
		}
	}
}

func TestRanksThatAreNotCounted(t *testing.T) {
	for _, no := range noLengths {
		for _, number := range []int64{1, 5, no} {
			refused(t, fmt.Sprint("rows ", no), impl.ErrRange)(impl.CountRanks(no, number, 1))
			refused(t, fmt.Sprint("cols ", no), impl.ErrRange)(impl.CountRanks(number, no, 0))
			refused(t, fmt.Sprint("rank above ", no), impl.ErrRange)(impl.CountRanks(number, no, math.MaxInt64))
		}
	}
	for _, rank := range []int64{-1, -5, math.MinInt64} {
		refused(t, fmt.Sprint("rank ", rank), impl.ErrRange)(impl.CountRanks(3, 3, rank))
	}
}

func TestWeightsOfDuals(t *testing.T) {
	for _, f := range allFields() {
		for _, c := range codesToList(f, 4096) {
			d, _ := impl.DualCode(c)
			if numberOfWords(d) > 4096 || c.Length > f.Degree {
				continue
			}
			weights, _ := impl.RankWeights(c)
			dual, _ := impl.RankWeights(d)
			listed(t, fmt.Sprint("dual weights of ", c), dual)(impl.DualWeights(c.Length, f.Degree, weights))
			listed(t, fmt.Sprint("weights of the dual of ", c), weights)(impl.DualWeights(c.Length, f.Degree, dual))
		}
	}
}

// TestWeightsOfLongDuals takes duals whose words are too many for a list.
func TestWeightsOfLongDuals(t *testing.T) {
	for _, f := range []impl.Field{{Degree: 4, Poly: 25}, {Degree: 5, Poly: 41}} {
		for _, c := range codesToList(f, 1024) {
			d, _ := impl.DualCode(c)
			if numberOfWords(d) > 1<<16 || numberOfWords(d) <= 4096 || c.Length > f.Degree {
				continue
			}
			weights, _ := impl.RankWeights(c)
			listed(t, fmt.Sprint("dual weights of ", c), weightsOfWords(f, c.Length, wordsOfCode(d)))(impl.DualWeights(c.Length, f.Degree, weights))
		}
	}
}

// TestWeightsOfDualsOfNothing has the word 0 alone, and all words.
func TestWeightsOfDualsOfNothing(t *testing.T) {
	for cols := int64(1); cols <= 5; cols++ {
		for rows := int64(1); rows <= cols; rows++ {
			zero, all := make([]int64, rows+1), make([]int64, rows+1)
			zero[0] = 1
			for rank := range all {
				all[rank] = matricesWithRank(rows, cols, int64(rank))
			}
			listed(t, fmt.Sprint("all with ", rows, cols), all)(impl.DualWeights(rows, cols, zero))
			listed(t, fmt.Sprint("zero with ", rows, cols), zero)(impl.DualWeights(rows, cols, all))
		}
	}
}

// dualWeightsOf adds as the document does; false if weights belong to no code.
func dualWeightsOf(n, m int64, weights []int64) ([]int64, bool) {
	gauss := func(n, k int64) int64 {
		if k < 0 || k > n {
			return 0
		}
		return countByLists(n, k)
	}
	all := sumOfNumbers(weights)
	if n > m || weights[0] != 1 {
		return nil, false
	}
	var dual []int64
	for j := int64(0); j <= n; j++ {
		sum := int64(0)
		for i, number := range weights {
			for l := int64(0); l <= n; l++ {
				if l > j || l > n-int64(i) {
					continue
				}
				term := number * int64(math.Pow(-1, float64(j-l))) * int64(math.Pow(2, float64(m*l+(j-l)*(j-l-1)/2)))
				sum += term * gauss(n-l, n-j) * gauss(n-int64(i), l)
			}
		}
		if sum < 0 || sum%all != 0 {
			return nil, false
		}
		dual = append(dual, sum/all)
	}
	return dual, true
}

func sumOfNumbers(list []int64) int64 {
	sum := int64(0)
	for _, number := range list {
		sum += number
	}
	return sum
}

// checkDualWeights compares with the sums of the document.
func checkDualWeights(t *testing.T, n, m int64, weights []int64) {
	t.Helper()
	name := fmt.Sprint("dual weights ", n, m, weights)
	if want, is := dualWeightsOf(n, m, weights); is {
		listed(t, name, want)(impl.DualWeights(n, m, weights))
	} else {
		refusedList(t, name, impl.ErrState)(impl.DualWeights(n, m, weights))
	}
}

func TestDualWeightsOfAnyNumbers(t *testing.T) {
	for m := int64(1); m <= 5; m++ {
		for one := int64(0); one <= 64; one++ {
			checkDualWeights(t, 1, m, []int64{1, one})
			for two := int64(0); two <= 64; two++ {
				checkDualWeights(t, 2, m, []int64{1, one, two})
				if one+two < 16 {
					checkDualWeights(t, 3, m, []int64{1, one, two, 15 - one - two})
					checkDualWeights(t, 4, m, []int64{1, 0, one, two, 15 - one - two})
					checkDualWeights(t, 5, m, []int64{1, 0, 0, one, two, 31 - one - two})
				}
			}
		}
	}
}

func TestDualWeightsOfGreatNumbers(t *testing.T) {
	great := int64(1) << 25
	for n := int64(1); n <= 5; n++ {
		for m := n; m <= 5; m++ {
			for place := int64(1); place <= n; place++ {
				weights := make([]int64, n+1)
				weights[0], weights[place] = 1, great
				checkDualWeights(t, n, m, weights)
				weights[place] = great - 1
				checkDualWeights(t, n, m, weights)
			}
			weights := slices.Repeat([]int64{great}, int(n)+1)
			refusedList(t, "great numbers", impl.ErrState)(impl.DualWeights(n, m, weights))
			weights[0] = 1
			checkDualWeights(t, n, m, weights)
		}
	}
}

func TestWeightsThatBelongToNoCode(t *testing.T) {
	refusedList(t, "not divisible", impl.ErrState)(impl.DualWeights(2, 2, []int64{1, 1, 1}))
	// The sums would be 8, -8 and 16.
	refusedList(t, "negative", impl.ErrState)(impl.DualWeights(2, 2, []int64{1, 1, 6}))
	// With these, the sums could all be divided.
	refusedList(t, "twice the word 0", impl.ErrState)(impl.DualWeights(2, 2, []int64{2, 0, 6}))
	refusedList(t, "not the word 0", impl.ErrState)(impl.DualWeights(1, 1, []int64{0, 1}))
	refusedList(t, "no words", impl.ErrState)(impl.DualWeights(3, 3, []int64{0, 0, 0, 0}))
	for rows := int64(2); rows <= 5; rows++ {
		for cols := int64(1); cols < rows; cols++ {
			weights := make([]int64, rows+1)
			weights[0] = 1
			refusedList(t, "more rows than columns", impl.ErrState)(impl.DualWeights(rows, cols, weights))
		}
	}
}

func TestWeightsThatAreNone(t *testing.T) {
	for _, no := range noLengths {
		for _, weights := range [][]int64{nil, {1}, {1, 0}, {1, 0, 0, 0, 0, 0}, {1, 0, 0, 0, 0, 0, 0}, {2, 0}} {
			refusedList(t, fmt.Sprint("rows ", no), impl.ErrRange)(impl.DualWeights(no, 3, weights))
			refusedList(t, fmt.Sprint("cols ", no), impl.ErrRange)(impl.DualWeights(1, no, weights))
			refusedList(t, fmt.Sprint("both ", no), impl.ErrRange)(impl.DualWeights(no, no, weights))
		}
	}
	for rows := int64(1); rows <= 5; rows++ {
		for cols := int64(1); cols <= 5; cols++ {
			for _, length := range []int64{0, rows, rows + 2, rows + 10} {
				refusedList(t, fmt.Sprint("length ", length), impl.ErrRange)(impl.DualWeights(rows, cols, make([]int64, length)))
			}
			for _, number := range []int64{-1, 1<<25 + 1, math.MaxInt64, math.MinInt64} {
				for place := range rows + 1 {
					// The first number, or more rows than columns, would be an error as well.
					weights := make([]int64, rows+1)
					weights[place] = number
					refusedList(t, fmt.Sprint("weights ", rows, cols, weights), impl.ErrRange)(impl.DualWeights(rows, cols, weights))
				}
			}
		}
	}
}
