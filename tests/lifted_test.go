package tests

import (
	"fmt"
	"slices"
	"testing"

	"loop.example/g01144/impl"
)

// Promise 16, for words: distances of lifted words are twice those of the words.

func TestExampleOfChapter6(t *testing.T) {
	f, _ := impl.FieldOf(2)
	u, code := impl.LiftWord(f, []int64{1, 2})
	is(t, "lifted", "matrix 4\n1010\n0101\n 0", fmt.Sprint(impl.MatrixText(u), " ", code))
	spread, code := impl.SpreadOf(4, 2)
	is(t, "spread", "5 [1 6] 0", fmt.Sprint(len(spread), spread[0].Rows, code))
	value(t, "near", 18)(impl.CountNear(4, 2, 1))
	value(t, "bound", 5)(impl.DesignBound(4, 2, 4))
}

func TestLiftedWords(t *testing.T) {
	for _, f := range allFields() {
		for _, w := range someWords(f) {
			u := liftedOf(f, w)
			is(t, fmt.Sprint("space ", u), true, isEchelon(u.Rows))
			matrix(t, fmt.Sprint(f, " lifted ", w), u)(impl.LiftWord(f, w))
			listed(t, fmt.Sprint(f, " word of ", u), w)(impl.UnliftSpace(f, int64(len(w)), u))
		}
	}
}

func TestLiftedWordsThatAreKnown(t *testing.T) {
	for _, known := range []struct {
		degree int64
		word   []int64
		text   string
	}{
		{1, []int64{0}, "matrix 2\n10\n"},
		{1, []int64{1}, "matrix 2\n11\n"},
		{1, []int64{1, 0, 1, 1, 0}, "matrix 6\n100001\n010000\n001001\n000101\n000010\n"},
		{1, []int64{0, 0, 0, 0, 0}, "matrix 6\n100000\n010000\n001000\n000100\n000010\n"},
		{3, []int64{3, 4}, "matrix 5\n10110\n01001\n"},
		{5, []int64{1}, "matrix 6\n110000\n"},
		{5, []int64{31}, "matrix 6\n111111\n"},
		{5, []int64{16, 3}, "matrix 7\n1000001\n0111000\n"},
		{5, []int64{31, 1, 16, 0, 6}, "matrix 10\n1000011111\n0100010000\n0010000001\n0001000000\n0000101100\n"},
	} {
		for _, poly := range irreducibles[known.degree] {
			f := impl.Field{Degree: known.degree, Poly: poly}
			u, code := impl.ReadMatrix(known.text)
			is(t, "text "+known.text, impl.OK, code)
			matrix(t, fmt.Sprint(f, " lifted ", known.word), u)(impl.LiftWord(f, known.word))
			listed(t, fmt.Sprint(f, " word of ", u), known.word)(impl.UnliftSpace(f, int64(len(known.word)), u))
		}
	}
}

func TestWordsThatAreNotLifted(t *testing.T) {
	for _, f := range allFields() {
		for _, w := range noWords(f) {
			refusedMatrix(t, fmt.Sprint(f, " lifted ", w), impl.ErrRange)(impl.LiftWord(f, w))
		}
	}
	for _, f := range noFields {
		for _, w := range [][]int64{{0}, {1, 1}, {1, 0, 1, 0, 1}, nil, {0, 0, 0, 0, 0, 0}, {-1}, {0, 99}} {
			refusedMatrix(t, fmt.Sprint(f, " lifted ", w), impl.ErrInvalid)(impl.LiftWord(f, w))
		}
	}
}

// TestWordsOfAllSpaces looks at all spaces with a few columns.
func TestWordsOfAllSpaces(t *testing.T) {
	for _, f := range allFields() {
		for length := int64(1); length <= 5 && length+f.Degree <= 6; length++ {
			words := map[string][]int64{}
			for _, w := range orderedLists(f, int(length)) {
				words[fmt.Sprint(liftedOf(f, w))] = w
			}
			for _, u := range everySpace(length + f.Degree) {
				name := fmt.Sprint(f, " word of ", length, u)
				if w, is := words[fmt.Sprint(u)]; is {
					listed(t, name, w)(impl.UnliftSpace(f, length, u))
				} else {
					refusedList(t, name, impl.ErrNotFound)(impl.UnliftSpace(f, length, u))
				}
			}
		}
	}
}

// TestSpacesThatNoWordIsLiftedTo has, for each length, some with other dimensions or other leads.
func TestSpacesThatNoWordIsLiftedTo(t *testing.T) {
	for _, f := range allFields() {
		for length := int64(1); length <= 5; length++ {
			cols := length + f.Degree
			lifted := liftedOf(f, mixedWord(f, length, 5))
			list := []impl.Matrix{
				{Cols: cols},
				identity(cols),
				{Cols: cols, Rows: identity(cols).Rows[:length+1]},
				{Cols: cols, Rows: lifted.Rows[1:]},
				{Cols: cols, Rows: lifted.Rows[:length-1]},
				{Cols: cols, Rows: identity(cols).Rows[f.Degree:]},
				{Cols: cols, Rows: append(identity(length-1).Rows, 1<<length)},
				{Cols: cols, Rows: append(identity(length-1).Rows, 1<<(cols-1))},
			}
			for _, u := range list {
				refusedList(t, fmt.Sprint(f, " word of ", length, u), impl.ErrNotFound)(impl.UnliftSpace(f, length, u))
			}
		}
	}
}

func TestWordsOfSpacesWithOtherColumns(t *testing.T) {
	for _, f := range allFields() {
		for length := int64(1); length <= 5; length++ {
			u := liftedOf(f, mixedWord(f, length, 3))
			for _, other := range noLengths {
				refusedList(t, fmt.Sprint(f, " word of ", other, u), impl.ErrRange)(impl.UnliftSpace(f, other, u))
			}
			for other := int64(1); other <= 5; other++ {
				if other != length {
					refusedList(t, fmt.Sprint(f, " word of ", other, u), impl.ErrRange)(impl.UnliftSpace(f, other, u))
				}
			}
			for cols := int64(1); cols <= 10; cols++ {
				if cols == u.Cols {
					continue
				}
				for _, v := range []impl.Matrix{{Cols: cols}, {Cols: cols, Rows: identity(cols).Rows[:min(cols, length)]}, identity(cols)} {
					refusedList(t, fmt.Sprint(f, " word of ", length, v), impl.ErrRange)(impl.UnliftSpace(f, length, v))
				}
			}
		}
		// Lengths that no word has, though the columns would fit them.
		for length := int64(6); length+f.Degree <= 10; length++ {
			u := identity(length + f.Degree)
			u.Rows = u.Rows[:length]
			refusedList(t, fmt.Sprint(f, " word of ", length, u), impl.ErrRange)(impl.UnliftSpace(f, length, u))
		}
		refusedList(t, fmt.Sprint(f, " word of no elements"), impl.ErrRange)(impl.UnliftSpace(f, 0, impl.Matrix{Cols: f.Degree}))
	}
}

func TestWordsOfNoSpaces(t *testing.T) {
	f := impl.Field{Degree: 2, Poly: 7}
	others := []impl.Matrix{{Cols: 4, Rows: []int64{5, 6, 2}}, {Cols: 4, Rows: []int64{6, 5}}, {Cols: 4, Rows: []int64{5, 11}}, {Cols: 4, Rows: []int64{5, 10, 0}}, {Cols: 4, Rows: []int64{5, 26}}}
	for _, a := range slices.Concat(noMatrices, noSpaces, others) {
		for _, length := range []int64{2, 1, 5, 0, -1, 6} {
			refusedList(t, fmt.Sprint("word of ", length, a), impl.ErrInvalid)(impl.UnliftSpace(f, length, a))
			refusedList(t, fmt.Sprint("no field and word of ", length, a), impl.ErrInvalid)(impl.UnliftSpace(impl.Field{}, length, a))
		}
	}
	for _, f := range noFields {
		for _, u := range []impl.Matrix{{Cols: 4, Rows: []int64{5, 10}}, {Cols: 4}, identity(10)} {
			for _, length := range append([]int64{2, 1, 4}, noLengths...) {
				refusedList(t, fmt.Sprint(f, " word of ", length, u), impl.ErrInvalid)(impl.UnliftSpace(f, length, u))
			}
		}
	}
}

func TestLiftedCodes(t *testing.T) {
	for _, f := range allFields() {
		for _, c := range someCodes(f) {
			name := fmt.Sprint("lifted ", c)
			if numberOfWords(c) > 400 {
				refusedSpaces(t, name, impl.ErrLimit)(impl.LiftedCode(c))
			} else {
				spaces(t, name, liftedWords(f, wordsOfCode(c)))(impl.LiftedCode(c))
			}
		}
	}
}

// TestLiftedCodesAtTheLimit has no codes with as many words as the limit, which is no power of 2.
func TestLiftedCodesAtTheLimit(t *testing.T) {
	for want, list := range map[int64][]impl.RankCode{
		256: {
			mixedCode(impl.Field{Degree: 4, Poly: 31}, 5, 18, 3),
			mixedCode(impl.Field{Degree: 2, Poly: 7}, 5, 15, 3),
			wholeCode(impl.Field{Degree: 2, Poly: 7}, 4),
			wholeCode(impl.Field{Degree: 4, Poly: 19}, 2),
		},
		512: {
			mixedCode(impl.Field{Degree: 3, Poly: 13}, 5, 11, 3),
			wholeCode(impl.Field{Degree: 3, Poly: 11}, 3),
		},
	} {
		for _, c := range list {
			is(t, fmt.Sprint("words of ", c), want, numberOfWords(c))
			if want == 256 {
				spaces(t, fmt.Sprint("lifted ", c), liftedWords(c.Field, wordsOfCode(c)))(impl.LiftedCode(c))
			} else {
				refusedSpaces(t, fmt.Sprint("lifted ", c), impl.ErrLimit)(impl.LiftedCode(c))
			}
		}
	}
	for _, c := range codesOverTheLimit() {
		refusedSpaces(t, fmt.Sprint("lifted ", c), impl.ErrLimit)(impl.LiftedCode(c))
	}
	for _, f := range allFields() {
		for length := int64(1); length <= 5; length++ {
			none := impl.RankCode{Field: f, Length: length}
			spaces(t, fmt.Sprint("lifted ", none), []impl.Matrix{liftedOf(f, make([]int64, length))})(impl.LiftedCode(none))
		}
	}
	for _, c := range allNoCodes() {
		refusedSpaces(t, fmt.Sprint("lifted ", c), impl.ErrInvalid)(impl.LiftedCode(c))
	}
}

// checkLiftedDistance compares what the program says of words and of their spaces with what all rows say.
func checkLiftedDistance(t *testing.T, f impl.Field, u, w []int64) {
	t.Helper()
	name := fmt.Sprint(f, " distance of ", u, w)
	one, first := impl.LiftWord(f, u)
	two, second := impl.LiftWord(f, w)
	is(t, name, fmt.Sprint(impl.OK, impl.OK), fmt.Sprint(first, second))
	words, _ := impl.WordDistance(f, u, w)
	value(t, name, 2*words)(impl.DistanceOf(one, two))
	is(t, name+" by rows", 2*rankOfWord(sumOfWords(u, w)), distanceOfSpaces(one, two))
}

func TestDistancesOfLiftedWords(t *testing.T) {
	for _, f := range allFields() {
		for length := int64(1); length <= 5; length++ {
			if f.Degree*length <= 5 {
				for _, u := range orderedLists(f, int(length)) {
					for _, w := range orderedLists(f, int(length)) {
						checkLiftedDistance(t, f, u, w)
					}
				}
				continue
			}
			for rank := range min(length, f.Degree) + 1 {
				for seed := range int64(3) {
					u := mixedWord(f, length, seed)
					checkLiftedDistance(t, f, u, sumOfWords(u, errorOfRank(f, length, rank, seed)))
				}
			}
		}
	}
}

// TestLeastDistancesOfLiftedCodes are twice the least ranks.
func TestLeastDistancesOfLiftedCodes(t *testing.T) {
	for _, f := range allFields() {
		for _, c := range codesToList(f, 128) {
			list, _ := impl.LiftedCode(c)
			is(t, fmt.Sprint("code of spaces of ", c), true, impl.ValidSpaces(list))
			if len(c.Rows) == 0 {
				refused(t, fmt.Sprint("one space of ", c), impl.ErrState)(impl.LeastSpaceDistance(list))
				continue
			}
			numbers := weightsOfWords(f, c.Length, wordsOfCode(c))
			value(t, fmt.Sprint("least distance of ", c), 2*leastOfWeights(numbers))(impl.LeastSpaceDistance(list))
		}
	}
}
