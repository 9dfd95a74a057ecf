package tests

import (
	"fmt"
	"math"
	"slices"
	"testing"

	"loop.example/g01144/impl"
)

// Promise 12: Gabidulin codes are extreme, and their points are found again.

func TestExampleOfChapter5(t *testing.T) {
	f, _ := impl.FieldOf(3)
	g, code := impl.FirstGabidulin(f, 3, 1)
	gabidulin(t, "the first one", impl.Gabidulin{Field: impl.Field{Degree: 3, Poly: 11}, Points: []int64{1, 2, 4}, Dimension: 1})(g, code)
	value(t, "radius", 1)(impl.RadiusOf(g))
	listed(t, "word", []int64{3, 6, 7})(impl.EncodeGabidulin(g, []int64{3}))
	decoded(t, "message", []int64{3}, 1)(impl.DecodeGabidulin(g, []int64{2, 7, 7}))
	listed(t, "locator", []int64{1, 1})(impl.ErrorLocator(g, []int64{2, 7, 7}))
	gabidulin(t, "dual", impl.Gabidulin{Field: f, Points: []int64{1, 6, 4}, Dimension: 2})(impl.DualGabidulin(g))
}

func TestValidGabidulin(t *testing.T) {
	for _, f := range allFields() {
		for _, g := range someGabidulins(f) {
			is(t, fmt.Sprint("valid ", g), true, impl.ValidGabidulin(g))
		}
	}
	for _, g := range allNoGabidulins() {
		is(t, fmt.Sprint("valid ", g), false, impl.ValidGabidulin(g))
	}
}

// TestPointsOfSmallFields looks at all lists of elements.
func TestPointsOfSmallFields(t *testing.T) {
	for f, most := range map[impl.Field]int{{Degree: 1, Poly: 3}: 6, {Degree: 2, Poly: 7}: 4, {Degree: 3, Poly: 13}: 4, {Degree: 4, Poly: 19}: 3, {Degree: 5, Poly: 47}: 2} {
		for length := 0; length <= most; length++ {
			for _, points := range orderedLists(f, length) {
				for _, dimension := range []int64{0, 1, int64(length), int64(length) + 1} {
					want := independent(points) && 1 <= dimension && dimension <= int64(length)
					is(t, fmt.Sprint(f, points, dimension), want, impl.ValidGabidulin(impl.Gabidulin{Field: f, Points: points, Dimension: dimension}))
				}
			}
		}
	}
}

func TestSameGabidulin(t *testing.T) {
	list := allNoGabidulins()
	for _, f := range allFields() {
		list = append(list, fewGabidulins(f, math.MaxInt64)...)
	}
	for i, g := range list {
		copied := impl.Gabidulin{Field: g.Field, Points: slices.Clone(g.Points), Dimension: g.Dimension}
		is(t, fmt.Sprint("same ", g), true, impl.SameGabidulin(g, copied))
		for _, other := range []impl.Gabidulin{list[(i*7+1)%len(list)], list[(i+1)%len(list)]} {
			is(t, fmt.Sprint("same ", g, other), fmt.Sprint(g) == fmt.Sprint(other), impl.SameGabidulin(g, other))
		}
	}
}

func TestGabidulinsThatDifferAtOnePlace(t *testing.T) {
	g := impl.Gabidulin{Field: impl.Field{Degree: 3, Poly: 11}, Points: []int64{1, 2}, Dimension: 1}
	for _, h := range []impl.Gabidulin{
		{Field: impl.Field{Degree: 2, Poly: 11}, Points: g.Points, Dimension: 1},
		{Field: impl.Field{Degree: 3, Poly: 13}, Points: g.Points, Dimension: 1},
		{Field: g.Field, Points: g.Points, Dimension: 2},
		{Field: g.Field, Points: []int64{1}, Dimension: 1},
		{Field: g.Field, Points: []int64{1, 2, 4}, Dimension: 1},
		{Field: g.Field, Points: []int64{1, 3}, Dimension: 1},
		{Field: g.Field, Points: []int64{3, 2}, Dimension: 1},
		{Field: g.Field, Points: []int64{2, 1}, Dimension: 1},
		{Field: g.Field, Dimension: 1},
		{},
	} {
		is(t, fmt.Sprint("same ", h), "false false true", fmt.Sprint(impl.SameGabidulin(g, h), impl.SameGabidulin(h, g), impl.SameGabidulin(h, h)))
	}
}

func TestFirstGabidulins(t *testing.T) {
	for _, f := range allFields() {
		for length := int64(1); length <= f.Degree; length++ {
			for dimension := int64(1); dimension <= length; dimension++ {
				want := impl.Gabidulin{Field: f, Points: []int64{1, 2, 4, 8, 16}[:length], Dimension: dimension}
				gabidulin(t, fmt.Sprint("the first one ", want), want)(impl.FirstGabidulin(f, length, dimension))
			}
			for _, dimension := range []int64{0, -1, length + 1, length + 2, math.MaxInt64, math.MinInt64} {
				refusedGabidulin(t, fmt.Sprint(f, length, " dimension ", dimension), impl.ErrRange)(impl.FirstGabidulin(f, length, dimension))
			}
		}
		for _, length := range append(slices.Clone(noLengths), f.Degree+1) {
			for _, dimension := range []int64{1, 0, length, 9} {
				refusedGabidulin(t, fmt.Sprint(f, " length ", length), impl.ErrRange)(impl.FirstGabidulin(f, length, dimension))
			}
		}
	}
	for _, f := range noFields {
		for _, length := range []int64{1, 2, 0, 9} {
			refusedGabidulin(t, fmt.Sprint("no field ", f), impl.ErrInvalid)(impl.FirstGabidulin(f, length, 1))
			refusedGabidulin(t, fmt.Sprint("no field ", f), impl.ErrInvalid)(impl.FirstGabidulin(f, length, -1))
		}
	}
}

func TestWordsOfMessages(t *testing.T) {
	for _, f := range allFields() {
		for _, g := range someGabidulins(f) {
			messages := someMessages(g)
			if numberOfMessages(g) <= 64 {
				messages = orderedLists(f, int(g.Dimension))
			}
			for _, message := range messages {
				listed(t, fmt.Sprint(g, " word of ", message), wordOfMessage(g, message))(impl.EncodeGabidulin(g, message))
			}
		}
	}
}

func TestMessagesOfOtherLengths(t *testing.T) {
	for _, f := range allFields() {
		for _, g := range fewGabidulins(f, math.MaxInt64) {
			lists := [][]int64{nil, make([]int64, g.Dimension-1), make([]int64, g.Dimension+1), make([]int64, g.Dimension+6)}
			for _, message := range append(lists, noElementAt(f, g.Dimension)...) {
				refusedList(t, fmt.Sprint(g, " message ", message), impl.ErrRange)(impl.EncodeGabidulin(g, message))
			}
		}
	}
}

func TestCodesOfGabidulins(t *testing.T) {
	for _, f := range allFields() {
		for _, g := range someGabidulins(f) {
			if numberOfMessages(g) <= 512 {
				coded(t, fmt.Sprint("code of ", g), codeOfPoints(g))(impl.CodeOfGabidulin(g))
			}
		}
	}
}

// TestCodesOfLongGabidulins uses that there is just one code with the dimension that has the values of 1 coefficient each.
func TestCodesOfLongGabidulins(t *testing.T) {
	for _, f := range allFields() {
		for _, g := range someGabidulins(f) {
			c, code := impl.CodeOfGabidulin(g)
			is(t, fmt.Sprint("code of ", g), fmt.Sprint(f, lengthOf(g), g.Dimension, true, 0), fmt.Sprint(c.Field, c.Length, len(c.Rows), isFieldEchelon(c.Rows), code))
			for place := range g.Dimension {
				message := make([]int64, g.Dimension)
				message[place] = 1
				is(t, fmt.Sprint("code of ", g, " has the word of ", message), true, isWordOf(c, wordOfMessage(g, message)))
			}
		}
	}
}

func TestGabidulinsAreExtreme(t *testing.T) {
	for _, f := range allFields() {
		for _, g := range someGabidulins(f) {
			c, _ := impl.CodeOfGabidulin(g)
			if numberOfMessages(g) <= 4096 {
				told(t, fmt.Sprint("extreme ", g), true, impl.OK)(impl.IsExtreme(c))
				value(t, fmt.Sprint("least rank of ", g), lengthOf(g)-g.Dimension+1)(impl.LeastRank(c))
			}
			value(t, fmt.Sprint("greatest dimension for ", g), g.Dimension)(impl.GreatestDimension(f, c.Length, c.Length-g.Dimension+1))
		}
	}
}

// TestRanksOfWordsOfGabidulins looks at all words of small ones, and at some of the others.
func TestRanksOfWordsOfGabidulins(t *testing.T) {
	for _, f := range allFields() {
		for _, g := range fewGabidulins(f, math.MaxInt64) {
			messages := someMessages(g)
			if numberOfMessages(g) <= 512 {
				messages = orderedLists(f, int(g.Dimension))
			}
			for _, message := range messages {
				w, _ := impl.EncodeGabidulin(g, message)
				is(t, fmt.Sprint(g, " rank of the word of ", message), true, len(cut(message)) == 0 || rankOfWord(w) > lengthOf(g)-g.Dimension)
			}
		}
	}
}

// multipliedPoints are the points, multiplied so that the first one is 1.
func multipliedPoints(g impl.Gabidulin) []int64 {
	for a := int64(1); ; a++ {
		if times(g.Field, a, g.Points[0]) == 1 {
			return multipleOfWord(g.Field, a, g.Points)
		}
	}
}

func TestPointsAreFoundAgain(t *testing.T) {
	for _, f := range allFields() {
		for _, g := range someGabidulins(f) {
			c, _ := impl.CodeOfGabidulin(g)
			want := impl.Gabidulin{Field: f, Points: multipliedPoints(g), Dimension: g.Dimension}
			if g.Dimension == lengthOf(g) {
				want.Points = []int64{1, 2, 4, 8, 16}[:g.Dimension]
			}
			gabidulin(t, fmt.Sprint("points of ", c), want)(impl.FindPoints(c))
			again, _ := impl.CodeOfGabidulin(want)
			coded(t, fmt.Sprint("code of the points of ", c), c)(again, impl.OK)
		}
	}
}

// pointsOfCodes are the first points, the first one being 1, by the codes of so many points, as printed.
func pointsOfCodes(f impl.Field, length int) map[string]impl.Gabidulin {
	found := map[string]impl.Gabidulin{}
	for _, others := range orderedLists(f, length-1) {
		points := append([]int64{1}, others...)
		if !independent(points) {
			continue
		}
		for _, g := range withDimensions(f, [][]int64{points}) {
			c, _ := impl.CodeOfGabidulin(g)
			if _, is := found[fmt.Sprint(c)]; !is {
				found[fmt.Sprint(c)] = g
			}
		}
	}
	return found
}

// checkPoints asks for the points that are known, or for none.
func checkPoints(t *testing.T, found map[string]impl.Gabidulin, c impl.RankCode) {
	t.Helper()
	name := fmt.Sprint("points of ", c)
	if g, is := found[fmt.Sprint(c)]; is {
		gabidulin(t, name, g)(impl.FindPoints(c))
	} else {
		refusedGabidulin(t, name, impl.ErrNotFound)(impl.FindPoints(c))
	}
}

// TestPointsOfAllCodes looks at all codes of a length, most of which are no Gabidulin codes.
func TestPointsOfAllCodes(t *testing.T) {
	for f, most := range map[impl.Field]int{{Degree: 1, Poly: 2}: 5, {Degree: 2, Poly: 7}: 4, {Degree: 3, Poly: 11}: 3, {Degree: 3, Poly: 13}: 3, {Degree: 4, Poly: 31}: 3, {Degree: 5, Poly: 37}: 3} {
		for length := 1; length <= most; length++ {
			found := pointsOfCodes(f, length)
			for _, c := range allCodes(f, int64(length)) {
				if len(c.Rows) > 0 {
					checkPoints(t, found, c)
				}
			}
		}
	}
}

// TestPointsOfCodesThatAreNearGabidulins changes elements of rows, one after the other.
func TestPointsOfCodesThatAreNearGabidulins(t *testing.T) {
	f := impl.Field{Degree: 4, Poly: 25}
	found := pointsOfCodes(f, 4)
	for _, g := range withDimensions(f, pointLists(f, 4)[:300]) {
		c, _ := impl.CodeOfGabidulin(g)
		checkPoints(t, found, c)
		for _, r := range c.Rows {
			for place := g.Dimension; place < c.Length; place++ {
				r[place] ^= 1 + 7*(place%2)
				checkPoints(t, found, c)
			}
		}
	}
}

func TestPointsOfLongCodes(t *testing.T) {
	for _, f := range allFields() {
		for length := f.Degree + 1; length <= 5; length++ {
			refusedGabidulin(t, fmt.Sprint(f, length, " all words of many places"), impl.ErrNotFound)(impl.FindPoints(wholeCode(f, length)))
			for leads := int64(1); leads < 1<<length; leads++ {
				refusedGabidulin(t, fmt.Sprint(f, length, leads, " many places"), impl.ErrNotFound)(impl.FindPoints(mixedCode(f, length, leads, 3)))
			}
		}
	}
}

func TestCodesThatHaveNoPoints(t *testing.T) {
	for _, f := range allFields() {
		for length := int64(1); length <= 5; length++ {
			refusedGabidulin(t, fmt.Sprint(f, length, " points without rows"), impl.ErrState)(impl.FindPoints(impl.RankCode{Field: f, Length: length}))
		}
		refusedGabidulin(t, fmt.Sprint(f, " points with the sum 0"), impl.ErrNotFound)(impl.FindPoints(impl.RankCode{Field: f, Length: 2, Rows: [][]int64{{1, 1}}}))
		refusedGabidulin(t, fmt.Sprint(f, " a point 0"), impl.ErrNotFound)(impl.FindPoints(impl.RankCode{Field: f, Length: 2, Rows: [][]int64{{1, 0}}}))
		refusedGabidulin(t, fmt.Sprint(f, " a first point 0"), impl.ErrNotFound)(impl.FindPoints(impl.RankCode{Field: f, Length: 2, Rows: [][]int64{{0, 1}}}))
	}
	for _, c := range allNoCodes() {
		refusedGabidulin(t, fmt.Sprint("points of ", c), impl.ErrInvalid)(impl.FindPoints(c))
	}
}

func TestWordsOfNoGabidulins(t *testing.T) {
	for _, g := range allNoGabidulins() {
		refusedCode(t, fmt.Sprint("code of ", g), impl.ErrInvalid)(impl.CodeOfGabidulin(g))
		for _, message := range [][]int64{nil, {1}, {1, 1}, {-1}, {0, 99}} {
			refusedList(t, fmt.Sprint(g, " word of ", message), impl.ErrInvalid)(impl.EncodeGabidulin(g, message))
		}
	}
}

func TestGabidulinsOfTheDegree1(t *testing.T) {
	for _, f := range []impl.Field{{Degree: 1, Poly: 2}, {Degree: 1, Poly: 3}} {
		g := impl.Gabidulin{Field: f, Points: []int64{1}, Dimension: 1}
		whole := impl.RankCode{Field: f, Length: 1, Rows: [][]int64{{1}}}
		gabidulin(t, "the first one", g)(impl.FirstGabidulin(f, 1, 1))
		coded(t, "its code", whole)(impl.CodeOfGabidulin(g))
		gabidulin(t, "its points", g)(impl.FindPoints(whole))
		listed(t, "a word", []int64{1})(impl.EncodeGabidulin(g, []int64{1}))
	}
}
