package tests

import (
	"fmt"
	"math"
	"slices"
	"testing"

	"loop.example/g01144/impl"
)

// Promise 13: errors up to the radius are undone, and no words beyond it are decoded.

// messagesWithin are all messages, in the order of lists, whose words have at most a distance from w.
func messagesWithin(g impl.Gabidulin, w []int64, distance int64) [][]int64 {
	var list [][]int64
	for _, message := range orderedLists(g.Field, int(g.Dimension)) {
		if rankOfWord(sumOfWords(w, wordOfMessage(g, message))) <= distance {
			list = append(list, message)
		}
	}
	return list
}

// radiusOfPoints counts how often two points can be taken away.
func radiusOfPoints(g impl.Gabidulin) int64 {
	radius := int64(0)
	for n := lengthOf(g) - 2; n >= g.Dimension; n -= 2 {
		radius++
	}
	return radius
}

// checkMended asks for the message, and for the only linear polynomial of its degree, with the last coefficient 1, that is 0 for the error.
func checkMended(t *testing.T, g impl.Gabidulin, w, message []int64) {
	t.Helper()
	name := fmt.Sprint(g, " decode ", w)
	missing := sumOfWords(w, wordOfMessage(g, message))
	rank := rankOfWord(missing)
	decoded(t, name, message, rank)(impl.DecodeGabidulin(g, w))
	locator, code := impl.ErrorLocator(g, w)
	is(t, name+" locator", fmt.Sprint(true, rank+1, 0), fmt.Sprint(isMonic(locator), len(locator), code))
	for _, a := range missing {
		is(t, name+" locator of the error", 0, valueOfLinear(g.Field, locator, a))
	}
}

// checkDecoding lists all messages.
func checkDecoding(t *testing.T, g impl.Gabidulin, w []int64) {
	t.Helper()
	within := messagesWithin(g, w, radiusOfPoints(g))
	if len(within) > 0 {
		is(t, fmt.Sprint(g, " messages near ", w), 1, len(within))
		checkMended(t, g, w, within[0])
		return
	}
	refuseDecoding(t, g, w, impl.ErrNotFound)
}

// refuseDecoding asks both functions that decode a word.
func refuseDecoding(t *testing.T, g impl.Gabidulin, w []int64, want int64) {
	t.Helper()
	refusedDecoding(t, fmt.Sprint(g, " decode ", w), want)(impl.DecodeGabidulin(g, w))
	refusedList(t, fmt.Sprint(g, " locator of ", w), want)(impl.ErrorLocator(g, w))
}

func TestRadius(t *testing.T) {
	for _, f := range allFields() {
		for _, g := range someGabidulins(f) {
			value(t, fmt.Sprint("radius of ", g), radiusOfPoints(g))(impl.RadiusOf(g))
		}
	}
	for _, g := range allNoGabidulins() {
		refused(t, fmt.Sprint("radius of ", g), impl.ErrInvalid)(impl.RadiusOf(g))
	}
	f := impl.Field{Degree: 5, Poly: 37}
	for dimension, want := range []int64{1: 2, 2: 1, 3: 1, 4: 0, 5: 0} {
		if dimension > 0 {
			value(t, fmt.Sprint("radius of five points and ", dimension), want)(impl.RadiusOf(impl.Gabidulin{Field: f, Points: []int64{1, 2, 4, 8, 16}, Dimension: int64(dimension)}))
		}
	}
}

// TestDecodingOfAllWords looks at all words of small Gabidulin codes.
func TestDecodingOfAllWords(t *testing.T) {
	for _, f := range allFields() {
		for _, g := range someGabidulins(f) {
			words := f.Degree * lengthOf(g)
			if words+f.Degree*g.Dimension > 12 || words > 7 && g.Points[0] != 3 {
				continue
			}
			for _, w := range orderedLists(f, len(g.Points)) {
				checkDecoding(t, g, w)
			}
		}
	}
}

func TestDecodingOfSomeWords(t *testing.T) {
	for _, f := range allFields() {
		for _, g := range fewGabidulins(f, 1024) {
			for rank := range lengthOf(g) + 1 {
				w := wordOfMessage(g, mixedWord(f, g.Dimension, rank))
				checkDecoding(t, g, sumOfWords(w, errorOfRank(f, lengthOf(g), rank, rank)))
			}
			checkDecoding(t, g, mixedWord(f, lengthOf(g), 31))
			checkDecoding(t, g, make([]int64, len(g.Points)))
		}
	}
}

// TestDecodingAmongManyMessages lists 32768 messages for a word each.
func TestDecodingAmongManyMessages(t *testing.T) {
	g := impl.Gabidulin{Field: impl.Field{Degree: 5, Poly: 61}, Points: []int64{31, 15, 7, 3, 1}, Dimension: 3}
	for rank := int64(1); rank <= 3; rank++ {
		checkDecoding(t, g, sumOfWords(wordOfMessage(g, []int64{rank, 0, 17}), errorOfRank(g.Field, 5, rank, 5)))
	}
}

func TestErrorsUpToTheRadius(t *testing.T) {
	for _, f := range allFields() {
		for _, g := range fewGabidulins(f, math.MaxInt64) {
			for i, message := range someMessages(g) {
				w := wordOfMessage(g, message)
				for rank := range radiusOfPoints(g) + 1 {
					checkMended(t, g, sumOfWords(w, errorOfRank(f, lengthOf(g), rank, int64(i))), message)
				}
			}
		}
	}
}

// TestErrorsBehindTheRadius has no other message as near as the distance of two words allows.
func TestErrorsBehindTheRadius(t *testing.T) {
	for _, f := range allFields() {
		for _, g := range fewGabidulins(f, math.MaxInt64) {
			c, _ := impl.CodeOfGabidulin(g)
			radius := radiusOfPoints(g)
			for i, message := range someMessages(g) {
				w := sumOfWords(wordOfMessage(g, message), errorOfRank(f, lengthOf(g), min(radius+1, lengthOf(g)), int64(i)))
				switch {
				case 2*radius+1 < lengthOf(g)-g.Dimension+1:
					refuseDecoding(t, g, w, impl.ErrNotFound)
				case radius == 0 && !isWordOf(c, w):
					refuseDecoding(t, g, w, impl.ErrNotFound)
				}
			}
		}
	}
}

func TestEveryWordOfAllDimensionsIsDecoded(t *testing.T) {
	for _, f := range allFields() {
		for _, points := range someBeginnings(f) {
			g := impl.Gabidulin{Field: f, Points: points, Dimension: int64(len(points))}
			for seed := range int64(5) {
				w := mixedWord(f, g.Dimension, seed)
				message, distance, code := impl.DecodeGabidulin(g, w)
				is(t, fmt.Sprint(g, " decode ", w), fmt.Sprint(w, 0, 0), fmt.Sprint(wordOfMessage(g, message), distance, code))
				listed(t, fmt.Sprint(g, " locator of ", w), []int64{1})(impl.ErrorLocator(g, w))
			}
		}
	}
}

func TestDecodingThatIsKnown(t *testing.T) {
	f := impl.Field{Degree: 3, Poly: 11}
	g := impl.Gabidulin{Field: f, Points: []int64{1, 2, 4}, Dimension: 1}
	listed(t, "locator of the word itself", []int64{1})(impl.ErrorLocator(g, []int64{3, 6, 7}))
	decoded(t, "the word itself", []int64{3}, 0)(impl.DecodeGabidulin(g, []int64{3, 6, 7}))
	decoded(t, "the word 0", []int64{0}, 0)(impl.DecodeGabidulin(g, []int64{0, 0, 0}))
	decoded(t, "an error alone", []int64{0}, 1)(impl.DecodeGabidulin(g, []int64{5, 0, 5}))
	listed(t, "locator of an error alone", []int64{5, 1})(impl.ErrorLocator(g, []int64{5, 0, 5}))
	g.Dimension = 3
	decoded(t, "zeros at the end", []int64{3, 0, 0}, 0)(impl.DecodeGabidulin(g, []int64{3, 6, 7}))
}

func TestDecodingInTheDegree1(t *testing.T) {
	for _, f := range []impl.Field{{Degree: 1, Poly: 2}, {Degree: 1, Poly: 3}} {
		g := impl.Gabidulin{Field: f, Points: []int64{1}, Dimension: 1}
		for a := range int64(2) {
			checkDecoding(t, g, []int64{a})
			listedWords(t, "within 0", [][]int64{{a}})(impl.ListWithin(g, []int64{a}, 0))
			listedWords(t, "within 1", [][]int64{{0}, {1}})(impl.ListWithin(g, []int64{a}, 1))
		}
	}
}

// otherWords are no words with as many elements as a length says.
func otherWords(f impl.Field, length int64) [][]int64 {
	return append(noElementAt(f, length), nil, make([]int64, length-1), make([]int64, length+1), make([]int64, length+6))
}

func TestOtherWordsAreNotDecoded(t *testing.T) {
	for _, f := range allFields() {
		for _, g := range fewGabidulins(f, math.MaxInt64) {
			for _, w := range otherWords(f, lengthOf(g)) {
				refuseDecoding(t, g, w, impl.ErrRange)
				for _, radius := range []int64{0, 1, -1} {
					refusedWords(t, fmt.Sprint(g, " within ", radius, w), impl.ErrRange)(impl.ListWithin(g, w, radius))
				}
			}
		}
	}
}

func TestNoGabidulinsToDecode(t *testing.T) {
	for _, g := range allNoGabidulins() {
		for _, w := range [][]int64{nil, {1}, {1, 1}, {-1}, {0, 99}, make([]int64, len(g.Points))} {
			refuseDecoding(t, g, w, impl.ErrInvalid)
			for _, radius := range []int64{0, 1, -1} {
				refusedWords(t, fmt.Sprint(g, " within ", radius, w), impl.ErrInvalid)(impl.ListWithin(g, w, radius))
			}
		}
	}
}

func TestListWithin(t *testing.T) {
	for _, f := range allFields() {
		for _, g := range fewGabidulins(f, 512) {
			words := [][]int64{make([]int64, len(g.Points)), mixedWord(f, lengthOf(g), 7), wordOfMessage(g, someMessages(g)[2])}
			for _, w := range words {
				for radius := range lengthOf(g) + 2 {
					listedWords(t, fmt.Sprint(g, " within ", radius, w), messagesWithin(g, w, radius))(impl.ListWithin(g, w, radius))
				}
				for _, radius := range []int64{7, 64, 1 << 32, math.MaxInt64} {
					listedWords(t, fmt.Sprint(g, " within ", radius, w), orderedLists(f, int(g.Dimension)))(impl.ListWithin(g, w, radius))
				}
				for _, radius := range []int64{-1, -2, math.MinInt64} {
					refusedWords(t, fmt.Sprint(g, " within ", radius, w), impl.ErrRange)(impl.ListWithin(g, w, radius))
				}
			}
		}
	}
}

func TestListsOfManyMessages(t *testing.T) {
	for _, f := range allFields() {
		for _, g := range withDimensions(f, [][]int64{someBases(f)[1%len(someBases(f))]}) {
			w := mixedWord(f, lengthOf(g), 3)
			switch number := numberOfMessages(g); {
			case number > 4096:
				refusedWords(t, fmt.Sprint(g, " many messages"), impl.ErrLimit)(impl.ListWithin(g, w, 0))
				refusedWords(t, fmt.Sprint(g, " many messages and a negative radius"), impl.ErrRange)(impl.ListWithin(g, w, -1))
				refusedWords(t, fmt.Sprint(g, " many messages and another word"), impl.ErrRange)(impl.ListWithin(g, w[1:], 0))
			case number > 512:
				listedWords(t, fmt.Sprint(g, " within 2 of ", w), messagesWithin(g, w, 2))(impl.ListWithin(g, w, 2))
				listedWords(t, fmt.Sprint(g, " within 9 of ", w), orderedLists(f, int(g.Dimension)))(impl.ListWithin(g, w, 9))
			}
		}
	}
}

// TestListsWithinTheRadiusHaveWhatIsDecoded compares with the words that are nearest.
func TestListsWithinTheRadiusHaveWhatIsDecoded(t *testing.T) {
	for _, f := range allFields() {
		for _, g := range fewGabidulins(f, 1024) {
			c, _ := impl.CodeOfGabidulin(g)
			w := sumOfWords(wordOfMessage(g, someMessages(g)[1]), errorOfRank(f, lengthOf(g), radiusOfPoints(g), 9))
			message, distance, _ := impl.DecodeGabidulin(g, w)
			listedWords(t, fmt.Sprint(g, " within the radius of ", w), [][]int64{message})(impl.ListWithin(g, w, radiusOfPoints(g)))
			nearest(t, fmt.Sprint(g, " nearest to ", w), distance, [][]int64{wordOfMessage(g, message)})(impl.NearestWords(c, w))
			is(t, fmt.Sprint(g, " length of ", w), true, slices.Equal(message, someMessages(g)[1]))
		}
	}
}
