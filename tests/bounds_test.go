package tests

import (
	"fmt"
	"math"
	"slices"
	"testing"

	"loop.example/g01144/impl"
)

// Promise 11: no code goes beyond the bound, and nearest words are nearest.

// leastOfWeights is the least rank other than 0 of which there are words.
func leastOfWeights(numbers []int64) int64 {
	return 1 + int64(slices.IndexFunc(numbers[1:], func(number int64) bool { return number > 0 }))
}

// greatestDimensionOf tries all dimensions.
func greatestDimensionOf(m, n, d int64) int64 {
	greatest := int64(0)
	for k := int64(1); k <= n && d <= n && d <= m; k++ {
		if k <= n-d+1 && (n <= m || k*m <= n*(m-d+1)) {
			greatest = k
		}
	}
	return greatest
}

func TestLeastRanks(t *testing.T) {
	for _, f := range allFields() {
		for _, c := range codesToList(f, 4096) {
			if len(c.Rows) > 0 {
				weights := weightsOfWords(f, c.Length, wordsOfCode(c))
				value(t, fmt.Sprint("least rank of ", c), leastOfWeights(weights))(impl.LeastRank(c))
			}
		}
		for length := int64(1); length <= 5; length++ {
			refused(t, fmt.Sprint(f, length, " least rank without rows"), impl.ErrState)(impl.LeastRank(impl.RankCode{Field: f, Length: length}))
		}
	}
	value(t, "the greatest one", 5)(impl.LeastRank(impl.RankCode{Field: impl.Field{Degree: 5, Poly: 37}, Length: 5, Rows: [][]int64{{1, 2, 4, 8, 16}}}))
	for _, c := range codesOverTheLimit() {
		refused(t, fmt.Sprint("least rank of ", c), impl.ErrLimit)(impl.LeastRank(c))
	}
}

func TestGreatestDimensions(t *testing.T) {
	for _, f := range allFields() {
		for length := int64(1); length <= 5; length++ {
			for _, distance := range []int64{1, 2, 3, 4, 5, 6, 7, 64, math.MaxInt64} {
				name := fmt.Sprint(f, " greatest dimension ", length, distance)
				value(t, name, greatestDimensionOf(f.Degree, length, distance))(impl.GreatestDimension(f, length, distance))
			}
		}
	}
	// The second bound is 2.5, and 3.3.
	value(t, "2, 5, 2", 2)(impl.GreatestDimension(impl.Field{Degree: 2, Poly: 7}, 5, 2))
	value(t, "3, 5, 2", 3)(impl.GreatestDimension(impl.Field{Degree: 3, Poly: 11}, 5, 2))
	value(t, "1, 5, 1", 5)(impl.GreatestDimension(impl.Field{Degree: 1, Poly: 2}, 5, 1))
	value(t, "5, 4, 2", 3)(impl.GreatestDimension(impl.Field{Degree: 5, Poly: 37}, 4, 2))
}

func TestDimensionsWithoutABound(t *testing.T) {
	for _, f := range allFields() {
		for _, length := range noLengths {
			for _, distance := range []int64{1, 0, -1, length} {
				refused(t, fmt.Sprint(f, " length ", length), impl.ErrRange)(impl.GreatestDimension(f, length, distance))
			}
		}
		for _, distance := range []int64{0, -1, math.MinInt64} {
			refused(t, fmt.Sprint(f, " distance ", distance), impl.ErrRange)(impl.GreatestDimension(f, 3, distance))
		}
	}
	for _, f := range noFields {
		for _, distance := range []int64{0, 1, 9} {
			refused(t, fmt.Sprint("no field ", f), impl.ErrInvalid)(impl.GreatestDimension(f, 3, distance))
			refused(t, fmt.Sprint("no field ", f), impl.ErrInvalid)(impl.GreatestDimension(f, 0, distance))
		}
	}
}

func TestNoCodeGoesBeyondTheBound(t *testing.T) {
	for _, f := range allFields() {
		for _, c := range codesToList(f, 4096) {
			if len(c.Rows) == 0 {
				continue
			}
			least, _ := impl.LeastRank(c)
			greatest, code := impl.GreatestDimension(f, c.Length, least)
			is(t, fmt.Sprint("bound of ", c), "true 0", fmt.Sprint(int64(len(c.Rows)) <= greatest, code))
		}
	}
}

func TestExtremeCodes(t *testing.T) {
	for _, f := range allFields() {
		extreme := 0
		for _, c := range codesToList(f, 4096) {
			n, k := c.Length, int64(len(c.Rows))
			want := false
			if k > 0 && n <= f.Degree {
				want = k == n-leastOfWeights(weightsOfWords(f, n, wordsOfCode(c)))+1
			}
			if want {
				extreme++
			}
			told(t, fmt.Sprint("extreme ", c), want, impl.OK)(impl.IsExtreme(c))
		}
		is(t, fmt.Sprint(f, " has some extreme codes"), true, extreme > 0)
	}
	for _, c := range codesOverTheLimit() {
		told(t, fmt.Sprint("extreme ", c), false, impl.ErrLimit)(impl.IsExtreme(c))
	}
}

// TestSquaresMakeExtremeCodes has rows of points and their squares, of which no sum is 0.
func TestSquaresMakeExtremeCodes(t *testing.T) {
	for _, f := range allFields() {
		points := someBases(f)[0]
		var rows [][]int64
		for k := int64(0); k < f.Degree && f.Degree*(k+1) <= 12; k++ {
			var r []int64
			for _, a := range points {
				r = append(r, squared(f, a, k))
			}
			rows = append(rows, r)
			c, _ := impl.CodeOf(f, f.Degree, rows)
			told(t, fmt.Sprint("extreme ", c), true, impl.OK)(impl.IsExtreme(c))
			value(t, fmt.Sprint("least rank of ", c), f.Degree-k)(impl.LeastRank(c))
			value(t, fmt.Sprint("bound of ", c), k+1)(impl.GreatestDimension(f, f.Degree, f.Degree-k))
		}
	}
}

func TestCodesThatAreNotExtreme(t *testing.T) {
	f := impl.Field{Degree: 1, Poly: 2}
	told(t, "all words, longer than the degree", false, impl.OK)(impl.IsExtreme(wholeCode(f, 2)))
	told(t, "all words of one element", true, impl.OK)(impl.IsExtreme(wholeCode(f, 1)))
	told(t, "without rows", false, impl.OK)(impl.IsExtreme(impl.RankCode{Field: f, Length: 1}))
	f = impl.Field{Degree: 2, Poly: 7}
	told(t, "a lesser rank", false, impl.OK)(impl.IsExtreme(impl.RankCode{Field: f, Length: 2, Rows: [][]int64{{1, 1}}}))
	told(t, "without rows", false, impl.OK)(impl.IsExtreme(impl.RankCode{Field: f, Length: 2}))
	told(t, "all words", true, impl.OK)(impl.IsExtreme(wholeCode(f, 2)))
	told(t, "all words, longer than the degree", false, impl.OK)(impl.IsExtreme(wholeCode(f, 3)))
}

// nearestOf looks at all words of a code.
func nearestOf(all [][]int64, w []int64) (int64, [][]int64) {
	least, list := int64(math.MaxInt64), [][]int64{}
	for _, v := range all {
		distance := rankOfWord(sumOfWords(w, v))
		if distance < least {
			least, list = distance, nil
		}
		if distance == least {
			list = append(list, v)
		}
	}
	return least, list
}

func TestNearestWordsOfAllWords(t *testing.T) {
	for f, length := range map[impl.Field]int{{Degree: 1, Poly: 2}: 3, {Degree: 2, Poly: 7}: 2, {Degree: 3, Poly: 13}: 2, {Degree: 5, Poly: 61}: 1} {
		for _, c := range allCodes(f, int64(length)) {
			all := wordsOfCode(c)
			for _, w := range orderedLists(f, length) {
				least, want := nearestOf(all, w)
				nearest(t, fmt.Sprint(c, " nearest to ", w), least, want)(impl.NearestWords(c, w))
			}
		}
	}
}

func TestNearestWords(t *testing.T) {
	for _, f := range allFields() {
		for i, c := range codesToList(f, 1024) {
			all := wordsOfCode(c)
			for _, several := range []int64{1, 6} {
				w := mixedMatrix(f.Degree, c.Length, int64(i), several).Rows
				least, want := nearestOf(all, w)
				nearest(t, fmt.Sprint(c, " nearest to ", w), least, want)(impl.NearestWords(c, w))
			}
			nearest(t, fmt.Sprint(c, " nearest to a word of it"), 0, all[len(all)-1:])(impl.NearestWords(c, all[len(all)-1]))
		}
	}
}

func TestNearestWordsOfManyWords(t *testing.T) {
	c := mixedCode(impl.Field{Degree: 4, Poly: 19}, 5, 13, 1)
	is(t, "number", 4096, numberOfWords(c))
	least, want := nearestOf(wordsOfCode(c), []int64{1, 2, 4, 8, 15})
	nearest(t, "4096 words", least, want)(impl.NearestWords(c, []int64{1, 2, 4, 8, 15}))
	for _, c := range codesOverTheLimit() {
		w := make([]int64, c.Length)
		refusedNearest(t, fmt.Sprint("nearest in ", c), impl.ErrLimit)(impl.NearestWords(c, w))
		refusedNearest(t, fmt.Sprint("nearest in ", c), impl.ErrRange)(impl.NearestWords(c, w[1:]))
		w[1] = -1
		refusedNearest(t, fmt.Sprint("nearest in ", c), impl.ErrRange)(impl.NearestWords(c, w))
	}
	nearest(t, "the word 0 alone", 3, [][]int64{{0, 0, 0, 0, 0}})(impl.NearestWords(impl.RankCode{Field: impl.Field{Degree: 4, Poly: 19}, Length: 5}, []int64{1, 2, 3, 4, 5}))
}

func TestNearestToNoWords(t *testing.T) {
	for _, f := range allFields() {
		for _, c := range codesToList(f, 32) {
			for _, w := range append(noElementAt(f, c.Length), make([]int64, c.Length-1), make([]int64, c.Length+1), nil) {
				refusedNearest(t, fmt.Sprint(c, " nearest to ", w), impl.ErrRange)(impl.NearestWords(c, w))
			}
		}
	}
}

// radiusOf looks at all words of the length.
func radiusOf(c impl.RankCode) int64 {
	all := wordsOfCode(c)
	radius := int64(0)
	listsOf(c.Field, c.Length, func(w []int64) {
		least, _ := nearestOf(all, w)
		radius = max(radius, least)
	})
	return radius
}

func pairsOf(c impl.RankCode) int64 {
	return numberOfWords(c) << (c.Field.Degree * c.Length)
}

func TestCoveringRadius(t *testing.T) {
	for _, f := range allFields() {
		for _, c := range codesToList(f, 4096) {
			name := fmt.Sprint("covering radius of ", c)
			if pairsOf(c) > 65536 {
				refused(t, name, impl.ErrLimit)(impl.CoveringRadius(c))
			} else if pairsOf(c) <= 4096 {
				value(t, name, radiusOf(c))(impl.CoveringRadius(c))
			}
		}
	}
}

func TestCoveringRadiusWithManyPairs(t *testing.T) {
	four, two := impl.Field{Degree: 4, Poly: 31}, impl.Field{Degree: 2, Poly: 7}
	for _, c := range []impl.RankCode{
		{Field: four, Length: 4},
		{Field: four, Length: 3, Rows: [][]int64{{1, 2, 4}}},
		{Field: four, Length: 3, Rows: [][]int64{{0, 1, 1}}},
		{Field: two, Length: 5, Rows: [][]int64{{1, 0, 0, 1, 2}, {0, 1, 0, 2, 3}, {0, 0, 1, 0, 1}}},
		wholeCode(two, 4),
		wholeCode(four, 2),
	} {
		name := fmt.Sprint("covering radius of ", c)
		is(t, name, 65536, pairsOf(c))
		value(t, name, radiusOf(c))(impl.CoveringRadius(c))
	}
	for _, c := range []impl.RankCode{
		{Field: four, Length: 5},
		{Field: four, Length: 3, Rows: [][]int64{{1, 0, 2}, {0, 1, 4}}},
		{Field: two, Length: 5, Rows: [][]int64{{1, 0, 0, 0, 2}, {0, 1, 0, 0, 3}, {0, 0, 1, 0, 1}, {0, 0, 0, 1, 1}}},
		wholeCode(impl.Field{Degree: 3, Poly: 11}, 3),
	} {
		refused(t, fmt.Sprint("covering radius of ", c), impl.ErrLimit)(impl.CoveringRadius(c))
	}
	for _, c := range codesOverTheLimit() {
		refused(t, fmt.Sprint("covering radius of ", c), impl.ErrLimit)(impl.CoveringRadius(c))
	}
}

func TestCoveringRadiusOfAllWordsAndOfNone(t *testing.T) {
	for _, f := range allFields() {
		for length := int64(1); length <= 5; length++ {
			if pairsOf(wholeCode(f, length)) <= 65536 {
				value(t, fmt.Sprint(f, " all of ", length), 0)(impl.CoveringRadius(wholeCode(f, length)))
			}
			if f.Degree*length <= 16 {
				value(t, fmt.Sprint(f, " none of ", length), min(f.Degree, length))(impl.CoveringRadius(impl.RankCode{Field: f, Length: length}))
			}
		}
	}
}

func TestBoundsOfNoCodes(t *testing.T) {
	list := append(allNoCodes(), impl.RankCode{Field: impl.Field{Degree: 5, Poly: 37}, Length: 3, Rows: [][]int64{{1, 0, 0}, {0, 1, 0}, {0, 1, 1}}})
	for _, c := range list {
		name := fmt.Sprint("no code ", c)
		refused(t, name, impl.ErrInvalid)(impl.LeastRank(c))
		told(t, name, false, impl.ErrInvalid)(impl.IsExtreme(c))
		refused(t, name, impl.ErrInvalid)(impl.CoveringRadius(c))
		for _, w := range [][]int64{{}, {0}, {1, 1}, {-1}, {0, 0, 0}, {0, 0, 0, 0, 0, 0}} {
			refusedNearest(t, name, impl.ErrInvalid)(impl.NearestWords(c, w))
		}
	}
}
