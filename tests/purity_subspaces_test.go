package tests

import (
	"fmt"
	"slices"
	"testing"

	"loop.example/g01144/impl"
)

// Promise 1 for chapter 6.

// liftedAnswers has everything that chapter 6 answers for words, codes and Gabidulin codes, as text.
func liftedAnswers(g impl.Gabidulin, c impl.RankCode, w []int64, u, mixes, errors impl.Matrix, number int64) string {
	text := fmt.Sprintln(impl.LiftWord(g.Field, w))
	text += fmt.Sprintln(impl.UnliftSpace(g.Field, number, u))
	text += fmt.Sprintln(impl.LiftedCode(c))
	text += fmt.Sprintln(impl.SendThrough(u, mixes, errors))
	text += fmt.Sprintln(impl.DecodeLifted(g, u))
	return text
}

// spaceListAnswers has everything that chapter 6 answers for lists of spaces, as text.
func spaceListAnswers(list []impl.Matrix, u impl.Matrix, number int64) string {
	text := fmt.Sprintln(impl.ValidSpaces(list))
	text += fmt.Sprintln(impl.LeastSpaceDistance(list))
	text += fmt.Sprintln(impl.NearestSpaces(list, u))
	text += fmt.Sprintln(impl.DualSpaces(list))
	text += fmt.Sprintln(impl.IsSpread(list))
	text += fmt.Sprintln(impl.SpreadIndex(list, number))
	return text
}

// boundAnswers has everything that chapter 6 answers for numbers alone, as text.
func boundAnswers(n, k, number int64) string {
	text := fmt.Sprintln(impl.SpreadOf(n, k))
	text += fmt.Sprintln(impl.CountNear(n, k, number))
	text += fmt.Sprintln(impl.PackingBound(n, k, number))
	text += fmt.Sprintln(impl.DesignBound(n, k, number))
	text += fmt.Sprintln(impl.GreedySpaces(n, k, number))
	return text
}

func TestEveryCallWithLiftedWordsReturnsTheSameAgain(t *testing.T) {
	matrices := slices.Concat(oddMatrices(), someSpaces(5), someSpaces(10))
	codes := oddCodes()
	for i, g := range append(oddGabidulins(), fewGabidulins(impl.Field{Degree: 5, Poly: 37}, 1024)...) {
		c, number := codes[i*7%len(codes)], oddNumbers[i%len(oddNumbers)]
		u, mixes, errors := matrices[i%len(matrices)], matrices[i*5%len(matrices)], matrices[i*11%len(matrices)]
		space := impl.Matrix{Cols: max(1, min(10, lengthOf(g)+g.Field.Degree)), Rows: []int64{1}}
		is(t, fmt.Sprint("again ", g, c), liftedAnswers(g, c, g.Points, space, identity(1), space, lengthOf(g)), liftedAnswers(g, c, g.Points, space, identity(1), space, lengthOf(g)))
		is(t, fmt.Sprint("again with odd arguments ", g, u), liftedAnswers(g, c, oddNumbers, u, mixes, errors, number), liftedAnswers(g, c, oddNumbers, u, mixes, errors, number))
	}
}

func TestEveryCallWithSpaceListsReturnsTheSameAgain(t *testing.T) {
	matrices := oddMatrices()
	for i, list := range slices.Concat(someSpaceLists(), noSpaceLists(), [][]impl.Matrix{matrices}) {
		u, number := matrices[i*3%len(matrices)], oddNumbers[i%len(oddNumbers)]
		is(t, fmt.Sprint("again ", list, u), spaceListAnswers(list, u, number), spaceListAnswers(list, u, number))
		if len(list) > 0 {
			is(t, fmt.Sprint("again ", list), spaceListAnswers(list, list[0], 1), spaceListAnswers(list, list[0], 1))
		}
	}
}

func TestBoundsOfOddNumbers(t *testing.T) {
	for _, n := range append([]int64{4, 8, 9, 10, 11}, oddNumbers...) {
		for _, k := range oddNumbers {
			for _, number := range oddNumbers {
				is(t, fmt.Sprint("again ", n, k, number), boundAnswers(n, k, number), boundAnswers(n, k, number))
			}
		}
	}
}

func TestNilListsOfSpacesAreEmptyLists(t *testing.T) {
	none := impl.Matrix{Cols: 3}
	is(t, "no list", spaceListAnswers([]impl.Matrix{}, none, 1), spaceListAnswers(nil, none, 1))
	for cols := range int64(12) {
		empty, noRows := impl.Matrix{Cols: cols, Rows: []int64{}}, impl.Matrix{Cols: cols}
		name := fmt.Sprint("no rows with ", cols)
		is(t, name, spaceListAnswers([]impl.Matrix{empty}, empty, 1), spaceListAnswers([]impl.Matrix{noRows}, noRows, 1))
		is(t, name+" twice", "false", fmt.Sprint(impl.ValidSpaces([]impl.Matrix{empty, noRows})))
		for _, f := range append(allFields(), noFields...) {
			g, c := impl.Gabidulin{Field: f, Points: []int64{1}, Dimension: 1}, impl.RankCode{Field: f, Length: 1}
			emptyCode := impl.RankCode{Field: f, Length: 1, Rows: [][]int64{}}
			is(t, fmt.Sprint(name, f), liftedAnswers(g, emptyCode, []int64{}, empty, empty, empty, 1), liftedAnswers(g, c, nil, noRows, noRows, noRows, 1))
		}
	}
}

func TestLongListsForSpaces(t *testing.T) {
	f := impl.Field{Degree: 5, Poly: 37}
	long, u := make([]int64, 1000000), identity(3)
	refusedMatrix(t, "long word", impl.ErrRange)(impl.LiftWord(f, long))
	refusedList(t, "long space", impl.ErrInvalid)(impl.UnliftSpace(f, 5, impl.Matrix{Cols: 10, Rows: long}))
	refusedDecoding(t, "long space", impl.ErrInvalid)(impl.DecodeLifted(impl.Gabidulin{Field: f, Points: []int64{1}, Dimension: 1}, impl.Matrix{Cols: 6, Rows: long}))
	refusedMatrix(t, "long mixes", impl.ErrInvalid)(impl.SendThrough(u, impl.Matrix{Cols: 3, Rows: long}, u))
	refusedMatrix(t, "long errors", impl.ErrInvalid)(impl.SendThrough(u, u, impl.Matrix{Cols: 3, Rows: long}))
	same := slices.Repeat([]impl.Matrix{u}, 250000)
	for _, list := range [][]impl.Matrix{make([]impl.Matrix, 1000000), same, {{Cols: 3, Rows: long}}, {u, {Cols: 3, Rows: long}}, slices.Repeat(pointSpaces(9, 500), 1000)} {
		is(t, "long list", spaceListAnswers(nil, u, 1), spaceListAnswers(list, u, 1))
	}
}

// longerList returns a list whose spaces have some memory behind their rows, and the list as well, and what all of this memory has, as text.
func longerList(list []impl.Matrix) ([]impl.Matrix, func() string) {
	var shown []impl.Matrix
	var whole [][]int64
	for _, u := range list {
		v, all := withCapacity(u)
		shown, whole = append(shown, v), append(whole, all)
	}
	behind := impl.Matrix{Cols: 77, Rows: []int64{5}}
	shown = append(shown, behind, behind)
	return shown[:len(list)], func() string { return fmt.Sprint(whole, shown) }
}

func TestSpaceListsStayAsTheyAre(t *testing.T) {
	for i, list := range slices.Concat(someSpaceLists(), noSpaceLists(), otherSpreads()) {
		shown, memory := longerList(list)
		u, rows := withCapacity(impl.Matrix{Cols: 4, Rows: []int64{1, 2}})
		if len(list) > 0 {
			u, rows = withCapacity(list[i%len(list)])
		}
		before := fmt.Sprint(memory(), rows)
		spaceListAnswers(shown, u, 1)
		is(t, fmt.Sprint("arguments ", list), before, fmt.Sprint(memory(), rows))
	}
}

func TestLiftedWordsStayAsTheyAre(t *testing.T) {
	for _, f := range allFields() {
		codes := append(codesToList(f, 256), noCodes(f)...)
		for i, g := range append(fewGabidulins(f, 64), noGabidulins(f)...) {
			points, first := longer(g.Points)
			w, second := longer(mixedWord(f, max(1, min(5, lengthOf(g))), int64(i)))
			c := codes[i*7%len(codes)]
			rows, third := longerRows(c.Rows)
			u, fourth := withCapacity(liftedOf(f, w))
			mixes, fifth := withCapacity(mixedMatrix(int64(len(u.Rows)), 4, int64(i), 3))
			errors, sixth := withCapacity(mixedMatrix(u.Cols, 3, int64(i), 2))
			before := fmt.Sprint(first, second, third, fourth, fifth, sixth, rows[:cap(rows)])
			g.Points, c.Rows = points, rows
			liftedAnswers(g, c, w, u, mixes, errors, int64(len(w)))
			liftedAnswers(g, c, points, errors, u, mixes, int64(len(w)))
			is(t, fmt.Sprint("arguments ", g, c), before, fmt.Sprint(first, second, third, fourth, fifth, sixth, rows[:cap(rows)]))
		}
	}
}

// subspaceResults are all lists of numbers that chapter 6 returns for arguments for which there are results.
func subspaceResults(t *testing.T, g impl.Gabidulin, c impl.RankCode, w []int64, u impl.Matrix, list []impl.Matrix) [][]int64 {
	t.Helper()
	var lists [][]int64
	add := func(list []int64, code int64) {
		t.Helper()
		is(t, fmt.Sprint("code ", g), impl.OK, code)
		lists = append(lists, list)
	}
	addRows := func(u impl.Matrix, code int64) {
		t.Helper()
		add(u.Rows, code)
	}
	addAll := func(list []impl.Matrix, code int64) {
		t.Helper()
		for _, u := range list {
			addRows(u, code)
		}
		clear(list[:cap(list)])
	}
	addRows(impl.LiftWord(g.Field, w))
	add(impl.UnliftSpace(g.Field, int64(len(w)), u))
	addAll(impl.LiftedCode(c))
	_, indices, code := impl.NearestSpaces(list, list[0])
	add(indices, code)
	addAll(impl.DualSpaces(list))
	addRows(impl.SendThrough(u, identity(int64(len(u.Rows))), impl.Matrix{Cols: u.Cols}))
	addRows(impl.SendThrough(u, impl.Matrix{Cols: int64(len(u.Rows))}, u))
	message, _, code := impl.DecodeLifted(g, u)
	add(message, code)
	addAll(impl.SpreadOf(4, 2))
	addAll(impl.GreedySpaces(4, 2, 4))
	return lists
}

func TestListsOfSpacesAreNewMemory(t *testing.T) {
	for _, f := range allFields() {
		for _, g := range fewGabidulins(f, 64) {
			w := wordOfMessage(g, slices.Repeat([]int64{1}, int(g.Dimension)))
			u, c := liftedOf(f, w), codeOfPoints(g)
			list := everySpaceOf(4, 2)
			if f.Degree%2 == 1 {
				list = []impl.Matrix{{Cols: 2, Rows: []int64{2}}, {Cols: 2, Rows: []int64{3}}, {Cols: 2, Rows: []int64{1}}}
			}
			before := fmt.Sprint(g, c, w, u, list)
			text := liftedAnswers(g, c, w, u, identity(int64(len(w))), u, lengthOf(g)) + spaceListAnswers(list, list[0], 1) + boundAnswers(4, 2, 4)
			lists := subspaceResults(t, g, c, w, u, list)
			spoilEach(t, fmt.Sprint(g), lists)
			is(t, fmt.Sprint("arguments ", g), before, fmt.Sprint(g, c, w, u, list))
			is(t, fmt.Sprint("results behind overwritten ones ", g), text, liftedAnswers(g, c, w, u, identity(int64(len(w))), u, lengthOf(g))+spaceListAnswers(list, list[0], 1)+boundAnswers(4, 2, 4))
		}
	}
}
