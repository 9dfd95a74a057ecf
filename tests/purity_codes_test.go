package tests

import (
	"fmt"
	"slices"
	"testing"

	"loop.example/g01144/impl"
)

// Promise 1 for chapter 4.

// codeAnswers has everything that chapter 4 answers for some arguments, as text.
func codeAnswers(c, d impl.RankCode, u, w []int64, rows, cols int64) string {
	f, length := c.Field, c.Length
	text := fmt.Sprintln(impl.ValidCode(c), impl.SameCode(c, d))
	text += fmt.Sprintln(impl.FieldEchelon(f, length, d.Rows))
	text += fmt.Sprintln(impl.FieldRank(f, length, d.Rows))
	text += fmt.Sprintln(impl.CodeOf(f, length, d.Rows))
	text += fmt.Sprintln(impl.WordMatrix(f, w))
	text += fmt.Sprintln(impl.WordRank(f, w))
	text += fmt.Sprintln(impl.WordDistance(f, u, w))
	text += fmt.Sprintln(impl.RowSupport(f, w))
	text += fmt.Sprintln(impl.ColumnSupport(f, w))
	text += fmt.Sprintln(impl.EncodeWith(c, u))
	text += fmt.Sprintln(impl.MessageOf(c, w))
	text += fmt.Sprintln(impl.WordsOf(c))
	text += fmt.Sprintln(impl.DualCode(c))
	text += fmt.Sprintln(impl.RankWeights(c))
	text += fmt.Sprintln(impl.LeastRank(c))
	text += fmt.Sprintln(impl.CountRanks(rows, cols, length))
	text += fmt.Sprintln(impl.DualWeights(rows, cols, u))
	text += fmt.Sprintln(impl.GreatestDimension(f, length, rows))
	text += fmt.Sprintln(impl.IsExtreme(c))
	text += fmt.Sprintln(impl.NearestWords(c, w))
	text += fmt.Sprintln(impl.CoveringRadius(c))
	return text
}

// oddCodes are codes of any numbers, and valid ones.
func oddCodes() []impl.RankCode {
	list := codesOfNoFields()
	for _, f := range allFields() {
		list = append(list, noCodes(f)...)
		list = append(list, codesToList(f, 64)...)
		for i, number := range oddNumbers {
			length := oddNumbers[(i*5+3)%len(oddNumbers)]
			list = append(list, impl.RankCode{Field: f, Length: length, Rows: [][]int64{{1, number}, oddNumbers, nil}})
			list = append(list, impl.RankCode{Field: impl.Field{Degree: number, Poly: length}, Length: 2, Rows: [][]int64{{1, 0}, {0, 1}}})
		}
	}
	return list
}

func TestEveryCallWithCodesReturnsTheSameAgain(t *testing.T) {
	list := oddCodes()
	for i, c := range list {
		d := list[i*7%len(list)]
		u, w := oddNumbers[i%len(oddNumbers):], []int64{0, 1}
		if len(c.Rows) > 0 {
			u, w = c.Rows[0], c.Rows[len(c.Rows)-1]
		}
		rows, cols := oddNumbers[i%len(oddNumbers)], oddNumbers[i*3%len(oddNumbers)]
		is(t, fmt.Sprint("again ", c, d), codeAnswers(c, d, u, w, rows, cols), codeAnswers(c, d, u, w, rows, cols))
		is(t, fmt.Sprint("again with odd numbers ", c), codeAnswers(c, c, oddNumbers, oddNumbers, cols, rows), codeAnswers(c, c, oddNumbers, oddNumbers, cols, rows))
	}
}

// countAnswers has what chapter 4 answers for numbers alone, as text.
func countAnswers(rows, cols, number int64) string {
	text := fmt.Sprintln(impl.CountRanks(rows, cols, number))
	text += fmt.Sprintln(impl.DualWeights(rows, cols, []int64{1, number}))
	text += fmt.Sprintln(impl.DualWeights(rows, cols, []int64{1, number, rows, cols}))
	text += fmt.Sprintln(impl.GreatestDimension(impl.Field{Degree: 3, Poly: 11}, rows, number))
	return text
}

func TestCountsOfOddNumbers(t *testing.T) {
	for _, rows := range oddNumbers {
		for _, cols := range oddNumbers {
			for _, number := range oddNumbers {
				is(t, fmt.Sprint("again ", rows, cols, number), countAnswers(rows, cols, number), countAnswers(rows, cols, number))
			}
		}
	}
}

func TestNilListsOfCodesAreEmptyLists(t *testing.T) {
	for _, f := range append(allFields(), noFields...) {
		for _, length := range []int64{0, 1, 2, 5, 6} {
			one := impl.RankCode{Field: f, Length: length, Rows: [][]int64{{1}}}
			none, empty := impl.RankCode{Field: f, Length: length}, impl.RankCode{Field: f, Length: length, Rows: [][]int64{}}
			noRow, emptyRow := impl.RankCode{Field: f, Length: length, Rows: [][]int64{nil}}, impl.RankCode{Field: f, Length: length, Rows: [][]int64{{}}}
			word := make([]int64, max(0, length))
			is(t, fmt.Sprint("no rows ", none), codeAnswers(empty, empty, word, word, 1, 1), codeAnswers(none, none, word, word, 1, 1))
			is(t, fmt.Sprint("no rows in one ", none), codeAnswers(empty, none, word, word, 1, 1), codeAnswers(none, empty, word, word, 1, 1))
			is(t, fmt.Sprint("no elements ", none), codeAnswers(emptyRow, noRow, word, word, 1, 1), codeAnswers(noRow, emptyRow, word, word, 1, 1))
			is(t, fmt.Sprint("no words ", one), codeAnswers(one, one, []int64{}, []int64{}, 1, 1), codeAnswers(one, one, nil, nil, 1, 1))
			is(t, fmt.Sprint("no message ", none), codeAnswers(none, none, []int64{}, word, 1, 1), codeAnswers(none, none, nil, word, 1, 1))
		}
	}
}

func TestLongListsForCodes(t *testing.T) {
	f := impl.Field{Degree: 5, Poly: 37}
	long, many := make([]int64, 1000000), make([][]int64, 1000000)
	good := impl.RankCode{Field: f, Length: 2, Rows: [][]int64{{1, 2}}}
	refuseWord(t, "long list", impl.ErrRange, f, long)
	refuseRows(t, "many rows", impl.ErrRange, f, 5, many)
	refuseRows(t, "long row", impl.ErrRange, f, 5, [][]int64{long})
	refusedList(t, "long message", impl.ErrRange)(impl.EncodeWith(good, long))
	refusedList(t, "long word", impl.ErrRange)(impl.MessageOf(good, long))
	refusedNearest(t, "long word", impl.ErrRange)(impl.NearestWords(good, long))
	refusedList(t, "long weights", impl.ErrRange)(impl.DualWeights(5, 5, long))
	for _, c := range []impl.RankCode{{Field: f, Length: 5, Rows: many}, {Field: f, Length: 5, Rows: [][]int64{long}}} {
		is(t, "valid and same", "false true false", fmt.Sprint(impl.ValidCode(c), impl.SameCode(c, c), impl.SameCode(c, good)))
		refusedList(t, "weights", impl.ErrInvalid)(impl.RankWeights(c))
		refusedCode(t, "dual", impl.ErrInvalid)(impl.DualCode(c))
	}
}

// longerRows returns rows with some memory behind each of them and behind their list, and all of this memory.
func longerRows(rows [][]int64) ([][]int64, [][]int64) {
	var shown, whole [][]int64
	for _, r := range rows {
		one, all := longer(r)
		shown, whole = append(shown, one), append(whole, all)
	}
	behind := []int64{-3, 1}
	shown = append(shown, behind, behind)
	return shown[:len(rows)], append(whole, shown[len(rows):]...)
}

func TestCodesStayAsTheyAre(t *testing.T) {
	for _, f := range allFields() {
		list := append(codesToList(f, 100), noCodes(f)...)
		for i, c := range list {
			d := list[(i*3+1)%len(list)]
			one, first := longerRows(c.Rows)
			two, second := longerRows(mixedRows(mixedCode(f, 5, 21, 1), 7))
			w, third := longer(mixedWord(f, max(0, min(5, c.Length)), int64(i)))
			u, fourth := longer(mixedWord(f, 5, 3)[:min(5, len(c.Rows))])
			before := fmt.Sprint(first, second, third, fourth, one[:cap(one)], two[:cap(two)])
			c.Rows = one
			codeAnswers(c, impl.RankCode{Rows: two}, u, w, 1, 1)
			codeAnswers(c, d, w, u, 1, 1)
			codeAnswers(impl.RankCode{Field: f, Length: 5, Rows: two}, impl.RankCode{Field: f, Length: 5, Rows: two}, u, w, 2, 3)
			is(t, fmt.Sprint("arguments ", c), before, fmt.Sprint(first, second, third, fourth, one[:cap(one)], two[:cap(two)]))
		}
	}
}

// codeResults are all lists that chapter 4 returns for arguments for which there are results.
func codeResults(t *testing.T, c impl.RankCode, message, w []int64) [][]int64 {
	t.Helper()
	var lists [][]int64
	add := func(list []int64, code int64) {
		t.Helper()
		is(t, fmt.Sprint("code ", c), impl.OK, code)
		lists = append(lists, list)
	}
	addAll := func(rows [][]int64, code int64) {
		t.Helper()
		is(t, fmt.Sprint("code ", c), impl.OK, code)
		lists = append(lists, rows...)
	}
	addMatrix := func(a impl.Matrix, code int64) {
		t.Helper()
		add(a.Rows, code)
	}
	addMatrix(impl.WordMatrix(c.Field, w))
	addMatrix(impl.RowSupport(c.Field, w))
	addMatrix(impl.ColumnSupport(c.Field, w))
	addAll(impl.FieldEchelon(c.Field, c.Length, c.Rows))
	same, code := impl.CodeOf(c.Field, c.Length, c.Rows)
	addAll(same.Rows, code)
	dual, code := impl.DualCode(c)
	addAll(dual.Rows, code)
	add(impl.EncodeWith(c, message))
	add(impl.MessageOf(c, w))
	addAll(impl.WordsOf(c))
	add(impl.RankWeights(c))
	least, near, code := impl.NearestWords(c, w)
	is(t, fmt.Sprint("distance ", c), 0, least)
	addAll(near, code)
	add(impl.DualWeights(1, 1, []int64{1, 1}))
	return lists
}

func TestListsOfCodesAreNewMemory(t *testing.T) {
	for _, f := range allFields() {
		for _, c := range codesToList(f, 32) {
			message := slices.Repeat([]int64{1}, len(c.Rows))
			w := wordOf(c, message)
			before := fmt.Sprint(c, message, w)
			text := codeAnswers(c, c, message, w, 1, 1)
			lists := codeResults(t, c, message, w)
			spoilEach(t, fmt.Sprint(c), lists)
			is(t, fmt.Sprint("arguments ", c), before, fmt.Sprint(c, message, w))
			is(t, fmt.Sprint("results behind overwritten ones ", c), text, codeAnswers(c, c, message, w, 1, 1))
		}
	}
}

func TestAllNearestWordsAreNewMemory(t *testing.T) {
	f := impl.Field{Degree: 2, Poly: 7}
	// The sums 0, 1 and 1, 1 have the rank 1, and the others the rank 2.
	_, near, _ := impl.NearestWords(impl.RankCode{Field: f, Length: 2, Rows: [][]int64{{1, 0}}}, []int64{0, 1})
	is(t, "nearest", "[[0 0] [1 0]]", fmt.Sprint(near))
	spoil(near[0])
	is(t, "nearest behind the first one", "[[1 0]]", fmt.Sprint(near[1:]))
}
