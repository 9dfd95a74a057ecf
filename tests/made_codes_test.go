package tests

import (
	"fmt"
	"math"
	"slices"
	"testing"

	"loop.example/g01144/impl"
)

// Promise 15: duals and squares of Gabidulin codes are Gabidulin codes.

// squaredWord squares each element k times.
func squaredWord(f impl.Field, w []int64, k int64) []int64 {
	var list []int64
	for _, a := range w {
		list = append(list, squared(f, a, k))
	}
	return list
}

// rootedWord squares each element so often that k times more make it again.
func rootedWord(f impl.Field, w []int64, k int64) []int64 {
	return squaredWord(f, w, k*(f.Degree-1))
}

// squaredRows squares each row k times.
func squaredRows(c impl.RankCode, k int64) impl.RankCode {
	d := impl.RankCode{Field: c.Field, Length: c.Length}
	for _, r := range c.Rows {
		d.Rows = append(d.Rows, squaredWord(c.Field, r, k))
	}
	return d
}

// TestDualsOfGabidulins asks what the document asks of the points.
func TestDualsOfGabidulins(t *testing.T) {
	for _, f := range allFields() {
		for _, g := range someGabidulins(f) {
			if g.Dimension == lengthOf(g) {
				refusedGabidulin(t, fmt.Sprint("dual of ", g), impl.ErrState)(impl.DualGabidulin(g))
				continue
			}
			h, code := impl.DualGabidulin(g)
			is(t, fmt.Sprint("dual of ", g), fmt.Sprint(f, lengthOf(g), lengthOf(g)-g.Dimension, 1, true, 0), fmt.Sprint(h.Field, lengthOf(h), h.Dimension, h.Points[0], independent(h.Points), code))
			for j := range g.Dimension {
				is(t, fmt.Sprint(g, h, " squares ", j), 0, productOfWords(f, h.Points, squaredWord(f, g.Points, j)))
			}
			for j := int64(1); j < lengthOf(g)-g.Dimension; j++ {
				is(t, fmt.Sprint(g, h, " roots ", j), 0, productOfWords(f, h.Points, rootedWord(f, g.Points, j)))
			}
		}
	}
}

func TestDualsOfGabidulinsHaveTheWordsOfDuals(t *testing.T) {
	for _, f := range allFields() {
		for _, g := range someGabidulins(f) {
			if g.Dimension == lengthOf(g) {
				continue
			}
			h, _ := impl.DualGabidulin(g)
			c, _ := impl.CodeOfGabidulin(g)
			d, _ := impl.CodeOfGabidulin(h)
			coded(t, fmt.Sprint("dual of the code of ", g), d)(impl.DualCode(c))
			again, _ := impl.DualGabidulin(h)
			is(t, fmt.Sprint("dual of the dual of ", g), fmt.Sprint(multipliedPoints(g), g.Dimension), fmt.Sprint(again.Points, again.Dimension))
		}
	}
}

func TestDualsThatAreNoGabidulins(t *testing.T) {
	for _, f := range allFields() {
		for length := range f.Degree {
			g := impl.Gabidulin{Field: f, Points: someBases(f)[0][:length+1], Dimension: length + 1}
			refusedGabidulin(t, fmt.Sprint("dual of ", g), impl.ErrState)(impl.DualGabidulin(g))
		}
	}
	for _, g := range allNoGabidulins() {
		refusedGabidulin(t, fmt.Sprint("dual of ", g), impl.ErrInvalid)(impl.DualGabidulin(g))
	}
}

// someTimes are numbers of squarings.
var someTimes = []int64{0, 1, 2, 3, 4, 5, 6, 59, 60, 999, 1000}

// noTimes are no numbers of squarings.
var noTimes = []int64{-1, -2, 1001, 1002, 1 << 32, math.MaxInt64, math.MinInt64}

func TestSquaresOfGabidulins(t *testing.T) {
	for _, f := range allFields() {
		for _, g := range fewGabidulins(f, math.MaxInt64) {
			c, _ := impl.CodeOfGabidulin(g)
			for _, k := range someTimes {
				name := fmt.Sprint(g, " squared ", k)
				want := impl.Gabidulin{Field: f, Points: squaredWord(f, g.Points, k), Dimension: g.Dimension}
				gabidulin(t, name, want)(impl.SquareGabidulin(g, k))
				is(t, name, true, impl.ValidGabidulin(want))
				d, _ := impl.CodeOfGabidulin(want)
				coded(t, name+" code", d)(impl.SquareCode(c, k))
			}
			for _, k := range noTimes {
				refusedGabidulin(t, fmt.Sprint(g, " squared ", k), impl.ErrRange)(impl.SquareGabidulin(g, k))
			}
		}
	}
	for _, g := range allNoGabidulins() {
		for _, k := range []int64{0, 1, -1, 1001} {
			refusedGabidulin(t, fmt.Sprint(g, " squared ", k), impl.ErrInvalid)(impl.SquareGabidulin(g, k))
		}
	}
}

func TestSquaresOfWords(t *testing.T) {
	for _, f := range allFields() {
		for length := int64(1); length <= 5; length++ {
			for seed := range int64(4) {
				w := mixedWord(f, length, seed)
				for _, k := range someTimes {
					listed(t, fmt.Sprint(f, w, " squared ", k), squaredWord(f, w, k))(impl.SquareWord(f, w, k))
				}
				for _, k := range noTimes {
					refusedList(t, fmt.Sprint(f, w, " squared ", k), impl.ErrRange)(impl.SquareWord(f, w, k))
				}
			}
		}
		for _, w := range noWords(f) {
			for _, k := range []int64{0, 1, 1000, -1} {
				refusedList(t, fmt.Sprint(f, w, " squared ", k), impl.ErrRange)(impl.SquareWord(f, w, k))
			}
		}
		for a := range sizeOf(f) {
			listed(t, fmt.Sprint(f, a, " squared"), []int64{times(f, a, a)})(impl.SquareWord(f, []int64{a}, 1))
		}
	}
	for _, f := range noFields {
		for _, w := range [][]int64{{0}, {1, 1}, nil, {-1}} {
			for _, k := range []int64{0, 1, -1} {
				refusedList(t, fmt.Sprint("no field ", f, w), impl.ErrInvalid)(impl.SquareWord(f, w, k))
			}
		}
	}
}

func TestSquaresOfCodes(t *testing.T) {
	for _, f := range allFields() {
		for i, c := range someCodes(f) {
			for _, k := range []int64{0, 1, 2, someTimes[i%len(someTimes)]} {
				coded(t, fmt.Sprint(c, " squared ", k), squaredRows(c, k))(impl.SquareCode(c, k))
			}
			refusedCode(t, fmt.Sprint(c, " squared often"), impl.ErrRange)(impl.SquareCode(c, noTimes[i%len(noTimes)]))
		}
	}
	for _, c := range allNoCodes() {
		for _, k := range []int64{0, 1, -1, 1001} {
			refusedCode(t, fmt.Sprint(c, " squared ", k), impl.ErrInvalid)(impl.SquareCode(c, k))
		}
	}
}

// TestSquaredCodesHaveTheSquaredWords looks at all words.
func TestSquaredCodesHaveTheSquaredWords(t *testing.T) {
	for _, f := range allFields() {
		for _, c := range codesToList(f, 64) {
			d, _ := impl.SquareCode(c, 1)
			is(t, fmt.Sprint("length of the square of ", c), len(c.Rows), len(d.Rows))
			for _, w := range wordsOfCode(c) {
				is(t, fmt.Sprint(w, " squared is a word of the square of ", c), true, isWordOf(d, squaredWord(f, w, 1)))
			}
		}
	}
}

// checkJoined asks both orders for the code of all sums.
func checkJoined(t *testing.T, c, d, want impl.RankCode) {
	t.Helper()
	coded(t, fmt.Sprint("sums of ", c, d), want)(impl.JoinCodes(c, d))
	coded(t, fmt.Sprint("sums of ", d, c), want)(impl.JoinCodes(d, c))
}

// TestJoinedCodesOfAllPairs lists the sums.
func TestJoinedCodesOfAllPairs(t *testing.T) {
	for f, length := range map[impl.Field]int64{{Degree: 1, Poly: 2}: 3, {Degree: 2, Poly: 7}: 2, {Degree: 3, Poly: 13}: 2, {Degree: 5, Poly: 37}: 1} {
		for short := int64(1); short <= length; short++ {
			for _, c := range allCodes(f, short) {
				for _, d := range allCodes(f, short) {
					both := impl.RankCode{Field: f, Length: short, Rows: slices.Concat(c.Rows, d.Rows)}
					both.Rows = slices.CompactFunc(rowsOfWords(short, wordsOfCode(both)), slices.Equal)
					coded(t, fmt.Sprint("sums of ", c, d), both)(impl.JoinCodes(c, d))
				}
			}
		}
	}
}

func TestJoinedCodes(t *testing.T) {
	for _, f := range allFields() {
		list := someCodes(f)
		for i, c := range list {
			none, whole := impl.RankCode{Field: f, Length: c.Length}, wholeCode(f, c.Length)
			checkJoined(t, c, none, c)
			checkJoined(t, c, c, c)
			checkJoined(t, c, whole, whole)
			d := mixedCode(f, c.Length, int64(i*7)%(1<<c.Length), int64(i))
			want, _ := impl.CodeOf(f, c.Length, slices.Concat(c.Rows, d.Rows))
			checkJoined(t, c, d, want)
		}
		// Together, they have as many rows as a matrix can have.
		checkJoined(t, wholeCode(f, 5), wholeCode(f, 5), wholeCode(f, 5))
	}
}

// TestJoinedSquaresAreGabidulins has a dimension more, as long as there are points for it.
func TestJoinedSquaresAreGabidulins(t *testing.T) {
	for _, f := range allFields() {
		for _, g := range fewGabidulins(f, math.MaxInt64) {
			c, _ := impl.CodeOfGabidulin(g)
			d, _ := impl.SquareCode(c, 1)
			larger := g
			larger.Dimension = min(lengthOf(g), g.Dimension+1)
			want, _ := impl.CodeOfGabidulin(larger)
			checkJoined(t, c, d, want)
		}
	}
}

func TestCodesThatAreNotJoined(t *testing.T) {
	fields := allFields()
	for i, f := range fields {
		for length := int64(1); length <= 5; length++ {
			for _, c := range []impl.RankCode{{Field: f, Length: length}, wholeCode(f, length)} {
				for _, d := range []impl.RankCode{
					{Field: f, Length: length%5 + 1},
					wholeCode(f, length%5+1),
					{Field: fields[(i+1)%len(fields)], Length: length},
					wholeCode(fields[(i+5)%len(fields)], length),
				} {
					refusedCode(t, fmt.Sprint("sums of ", c, d), impl.ErrRange)(impl.JoinCodes(c, d))
				}
			}
		}
	}
}

func TestNoCodesAreNotJoined(t *testing.T) {
	good := impl.RankCode{Field: impl.Field{Degree: 2, Poly: 7}, Length: 2, Rows: [][]int64{{1, 2}}}
	for _, c := range allNoCodes() {
		same := impl.RankCode{Field: c.Field, Length: c.Length}
		for _, d := range []impl.RankCode{good, same, c} {
			refusedCode(t, fmt.Sprint("sums of ", c, d), impl.ErrInvalid)(impl.JoinCodes(c, d))
			refusedCode(t, fmt.Sprint("sums of ", d, c), impl.ErrInvalid)(impl.JoinCodes(d, c))
		}
	}
	// A code with more rows than places is none, so no two of them have more rows than a matrix can have.
	many := impl.RankCode{Field: good.Field, Length: 5, Rows: slices.Concat(wholeCode(good.Field, 5).Rows, [][]int64{{0, 0, 0, 0, 0}})}
	refusedCode(t, "11 rows", impl.ErrInvalid)(impl.JoinCodes(wholeCode(good.Field, 5), many))
	many.Rows[5] = []int64{1, 0, 0, 0, 0}
	refusedCode(t, "11 rows", impl.ErrInvalid)(impl.JoinCodes(many, wholeCode(good.Field, 5)))
}
