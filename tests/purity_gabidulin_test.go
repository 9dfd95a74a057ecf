package tests

import (
	"fmt"
	"slices"
	"testing"

	"loop.example/g01144/impl"
)

// Promise 1 for chapter 5.

// gabidulinAnswers has everything that chapter 5 answers for Gabidulin codes, as text.
func gabidulinAnswers(g, h impl.Gabidulin, message, w []int64, u impl.Matrix, number int64) string {
	text := fmt.Sprintln(impl.ValidGabidulin(g), impl.SameGabidulin(g, h))
	text += fmt.Sprintln(impl.FirstGabidulin(g.Field, number, g.Dimension))
	text += fmt.Sprintln(impl.EncodeGabidulin(g, message))
	text += fmt.Sprintln(impl.CodeOfGabidulin(g))
	text += fmt.Sprintln(impl.RadiusOf(g))
	text += fmt.Sprintln(impl.DecodeGabidulin(g, w))
	text += fmt.Sprintln(impl.ErrorLocator(g, w))
	text += fmt.Sprintln(impl.DecodeErased(g, w, u))
	text += fmt.Sprintln(impl.DecodeHinted(g, w, u))
	text += fmt.Sprintln(impl.ListWithin(g, w, number))
	text += fmt.Sprintln(impl.DualGabidulin(g))
	text += fmt.Sprintln(impl.SquareGabidulin(g, number))
	text += fmt.Sprintln(impl.SquareWord(g.Field, w, number))
	return text
}

// madeAnswers has everything that chapter 5 answers for codes, as text.
func madeAnswers(c, d impl.RankCode, number int64) string {
	text := fmt.Sprintln(impl.SquareCode(c, number))
	text += fmt.Sprintln(impl.JoinCodes(c, d))
	text += fmt.Sprintln(impl.FindPoints(c))
	return text
}

// oddGabidulins are Gabidulin codes of any numbers, and valid ones.
func oddGabidulins() []impl.Gabidulin {
	list := allNoGabidulins()
	for _, f := range allFields() {
		list = append(list, fewGabidulins(f, 64)...)
		for i, number := range oddNumbers {
			other := oddNumbers[(i*5+3)%len(oddNumbers)]
			list = append(list, impl.Gabidulin{Field: f, Points: []int64{1, number}, Dimension: other}, impl.Gabidulin{Field: f, Points: oddNumbers, Dimension: 2})
			list = append(list, impl.Gabidulin{Field: impl.Field{Degree: number, Poly: other}, Points: []int64{1, 2}, Dimension: 1})
		}
	}
	return list
}

func TestEveryCallWithGabidulinsReturnsTheSameAgain(t *testing.T) {
	list, matrices := oddGabidulins(), slices.Concat(noMatrices, noSpaces, someSpaces(3))
	for i, g := range list {
		h, u, number := list[i*7%len(list)], matrices[i%len(matrices)], oddNumbers[i%len(oddNumbers)]
		space := impl.Matrix{Cols: min(10, lengthOf(g)), Rows: []int64{1}}
		is(t, fmt.Sprint("again ", g, h), gabidulinAnswers(g, h, h.Points, g.Points, space, 1), gabidulinAnswers(g, h, h.Points, g.Points, space, 1))
		is(t, fmt.Sprint("again with odd numbers ", g), gabidulinAnswers(g, g, oddNumbers, oddNumbers[i%20:], u, number), gabidulinAnswers(g, g, oddNumbers, oddNumbers[i%20:], u, number))
	}
}

func TestEveryCallWithMadeCodesReturnsTheSameAgain(t *testing.T) {
	list := oddCodes()
	for i, c := range list {
		d, number := list[i*7%len(list)], oddNumbers[i%len(oddNumbers)]
		is(t, fmt.Sprint("again ", c, d), madeAnswers(c, d, number), madeAnswers(c, d, number))
		is(t, fmt.Sprint("again ", c), madeAnswers(c, c, 1), madeAnswers(c, c, 1))
	}
}

func TestNilListsOfGabidulinsAreEmptyLists(t *testing.T) {
	for _, f := range append(allFields(), noFields...) {
		one, space := impl.Gabidulin{Field: f, Points: []int64{1}, Dimension: 1}, impl.Matrix{Cols: 1, Rows: []int64{1}}
		none, empty := impl.Gabidulin{Field: f, Dimension: 1}, impl.Gabidulin{Field: f, Points: []int64{}, Dimension: 1}
		is(t, fmt.Sprint("no points ", none), gabidulinAnswers(empty, none, []int64{0}, []int64{1}, space, 1), gabidulinAnswers(none, empty, []int64{0}, []int64{1}, space, 1))
		is(t, fmt.Sprint("no message and no word ", one), gabidulinAnswers(one, one, []int64{}, []int64{}, space, 1), gabidulinAnswers(one, one, nil, nil, space, 1))
		for _, cols := range []int64{0, 1, f.Degree} {
			emptyRows, nilRows := impl.Matrix{Cols: cols, Rows: []int64{}}, impl.Matrix{Cols: cols}
			is(t, fmt.Sprint("no rows of a space ", one), gabidulinAnswers(one, one, []int64{0}, []int64{1}, emptyRows, 1), gabidulinAnswers(one, one, []int64{0}, []int64{1}, nilRows, 1))
		}
		code := impl.RankCode{Field: f, Length: 2, Rows: [][]int64{{1, 1}}}
		noRows, emptyCode := impl.RankCode{Field: f, Length: 2}, impl.RankCode{Field: f, Length: 2, Rows: [][]int64{}}
		is(t, fmt.Sprint("no rows ", noRows), madeAnswers(emptyCode, noRows, 1), madeAnswers(noRows, emptyCode, 1))
		is(t, fmt.Sprint("no rows behind ", noRows), madeAnswers(code, emptyCode, 1), madeAnswers(code, noRows, 1))
	}
}

func TestLongListsForGabidulins(t *testing.T) {
	f := impl.Field{Degree: 5, Poly: 37}
	long := make([]int64, 1000000)
	good := impl.Gabidulin{Field: f, Points: []int64{1, 2}, Dimension: 1}
	bad := impl.Gabidulin{Field: f, Points: long, Dimension: 1}
	is(t, "valid and same", "false true false", fmt.Sprint(impl.ValidGabidulin(bad), impl.SameGabidulin(bad, bad), impl.SameGabidulin(bad, good)))
	refuseDecoding(t, bad, nil, impl.ErrInvalid)
	refuseDecoding(t, good, long, impl.ErrRange)
	refusedList(t, "long message", impl.ErrRange)(impl.EncodeGabidulin(good, long))
	refusedWords(t, "long word", impl.ErrRange)(impl.ListWithin(good, long, 1))
	refusedList(t, "long word", impl.ErrRange)(impl.SquareWord(f, long, 1))
	for _, k := range bothKnowings() {
		refusedList(t, "long space", impl.ErrInvalid)(k.decode(good, []int64{1, 2}, impl.Matrix{Cols: 2, Rows: long}))
		refusedList(t, "long word", impl.ErrRange)(k.decode(good, long, impl.Matrix{Cols: k.columns(good)}))
	}
	many := impl.RankCode{Field: f, Length: 5, Rows: make([][]int64, 1000000)}
	refusedCode(t, "many rows", impl.ErrInvalid)(impl.SquareCode(many, 1))
	refusedCode(t, "many rows", impl.ErrInvalid)(impl.JoinCodes(many, many))
	refusedGabidulin(t, "many rows", impl.ErrInvalid)(impl.FindPoints(many))
}

func TestGabidulinsStayAsTheyAre(t *testing.T) {
	for _, f := range allFields() {
		list := append(fewGabidulins(f, 200), noGabidulins(f)...)
		for i, g := range list {
			points, first := longer(g.Points)
			w, second := longer(mixedWord(f, max(1, lengthOf(g)), int64(i)))
			message, third := longer(w[:min(max(0, g.Dimension), lengthOf(g))])
			others, fourth := longer(mixedWord(f, 3, 8))
			columns, fifth := withCapacity(spaceOfRows(min(10, max(1, lengthOf(g))), []int64{0, 1}))
			rows, sixth := withCapacity(spaceOfRows(f.Degree, []int64{0, 1}))
			before := fmt.Sprint(first, second, third, fourth, fifth, sixth)
			g.Points = points
			h := impl.Gabidulin{Field: f, Points: others, Dimension: 1}
			gabidulinAnswers(g, h, message, w, columns, 1)
			gabidulinAnswers(g, h, message, w, rows, 1)
			is(t, fmt.Sprint("arguments ", g), before, fmt.Sprint(first, second, third, fourth, fifth, sixth))
		}
	}
}

func TestMadeCodesStayAsTheyAre(t *testing.T) {
	for _, f := range allFields() {
		list := append(codesToList(f, 100), noCodes(f)...)
		for i, c := range list {
			one, first := longerRows(c.Rows)
			two, second := longerRows(mixedCode(f, max(1, min(5, c.Length)), 5, 1).Rows)
			before := fmt.Sprint(first, second, one[:cap(one)], two[:cap(two)])
			c.Rows = one
			d := impl.RankCode{Field: f, Length: c.Length, Rows: two}
			madeAnswers(c, d, int64(i))
			madeAnswers(d, c, 1)
			is(t, fmt.Sprint("arguments ", c), before, fmt.Sprint(first, second, one[:cap(one)], two[:cap(two)]))
		}
	}
}

// gabidulinResults are all lists that chapter 5 returns for a Gabidulin code of which there are a dual and other results.
func gabidulinResults(t *testing.T, g impl.Gabidulin, message, w []int64, columns, rows impl.Matrix) [][]int64 {
	t.Helper()
	var lists [][]int64
	add := func(list []int64, code int64) {
		t.Helper()
		is(t, fmt.Sprint("code ", g), impl.OK, code)
		lists = append(lists, list)
	}
	addAll := func(rows [][]int64, code int64) {
		t.Helper()
		is(t, fmt.Sprint("code ", g), impl.OK, code)
		lists = append(lists, rows...)
	}
	addPoints := func(h impl.Gabidulin, code int64) {
		t.Helper()
		add(h.Points, code)
	}
	addRows := func(c impl.RankCode, code int64) {
		t.Helper()
		addAll(c.Rows, code)
	}
	c, code := impl.CodeOfGabidulin(g)
	addPoints(impl.FirstGabidulin(g.Field, lengthOf(g), g.Dimension))
	add(impl.EncodeGabidulin(g, message))
	found, _, decoding := impl.DecodeGabidulin(g, w)
	add(found, decoding)
	add(impl.ErrorLocator(g, w))
	add(impl.DecodeErased(g, w, columns))
	add(impl.DecodeHinted(g, w, rows))
	addAll(impl.ListWithin(g, w, 9))
	addPoints(impl.DualGabidulin(g))
	addPoints(impl.SquareGabidulin(g, 0))
	add(impl.SquareWord(g.Field, w, 0))
	addRows(impl.SquareCode(c, 0))
	addRows(impl.JoinCodes(c, c))
	addPoints(impl.FindPoints(c))
	addRows(c, code)
	return lists
}

func TestListsOfGabidulinsAreNewMemory(t *testing.T) {
	for _, f := range allFields() {
		for _, g := range fewGabidulins(f, 128) {
			if g.Dimension == lengthOf(g) {
				continue
			}
			message := slices.Repeat([]int64{1}, int(g.Dimension))
			w := wordOfMessage(g, message)
			columns, rows := impl.Matrix{Cols: lengthOf(g), Rows: []int64{1}}, impl.Matrix{Cols: f.Degree, Rows: []int64{1}}
			before := fmt.Sprint(g, message, w, columns, rows)
			text := gabidulinAnswers(g, g, message, w, columns, 0)
			lists := gabidulinResults(t, g, message, w, columns, rows)
			spoilEach(t, fmt.Sprint(g), lists)
			is(t, fmt.Sprint("arguments ", g), before, fmt.Sprint(g, message, w, columns, rows))
			is(t, fmt.Sprint("results behind overwritten ones ", g), text, gabidulinAnswers(g, g, message, w, columns, 0))
		}
	}
}
