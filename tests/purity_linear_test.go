package tests

import (
	"fmt"
	"slices"
	"testing"

	"loop.example/g01144/impl"
)

// Promise 1 for chapter 3.

// linearAnswers has everything that chapter 3 answers for some arguments, as text.
func linearAnswers(f impl.Field, p, q, list []int64, x int64, a impl.Matrix) string {
	text := fmt.Sprintln(impl.ValidLinear(f, p))
	text += fmt.Sprintln(impl.ValueOf(f, p, x))
	text += fmt.Sprintln(impl.SumLinear(f, p, q))
	text += fmt.Sprintln(impl.ComposeLinear(f, p, q))
	text += fmt.Sprintln(impl.DivideRight(f, p, q))
	text += fmt.Sprintln(impl.DivideLeft(f, p, q))
	text += fmt.Sprintln(impl.GreatestRight(f, p, q))
	text += fmt.Sprintln(impl.LeastLeft(f, p, q))
	text += fmt.Sprintln(impl.RootsOf(f, p))
	text += fmt.Sprintln(impl.AnnihilatorOf(f, list))
	text += fmt.Sprintln(impl.InterpolateLinear(f, list, p))
	text += fmt.Sprintln(impl.InterpolateLinear(f, list, list))
	text += fmt.Sprintln(impl.FoldLinear(f, p))
	text += fmt.Sprintln(impl.RankOfLinear(f, p))
	text += fmt.Sprintln(impl.MatrixOfLinear(f, list, p))
	text += fmt.Sprintln(impl.LinearOfMatrix(f, list, a))
	text += fmt.Sprintln(impl.AdjointLinear(f, p))
	text += fmt.Sprintln(impl.InverseLinear(f, p))
	return text
}

func TestEveryCallWithLinearsReturnsTheSameAgain(t *testing.T) {
	for _, f := range append(allFields(), noFields...) {
		lists := [][]int64{oddNumbers, {}, {0}, {1}, {1, 1}, {1, 0, 0, 0, 0, 1}, {1, 1, 1, 1, 1, 1, 1, 1, 1, 1, 1, 1}}
		for _, number := range oddNumbers {
			lists = append(lists, []int64{number, 1, number})
		}
		for i, p := range lists {
			q, list, x := lists[i*5%len(lists)], lists[i*3%len(lists)], oddNumbers[i*7%len(oddNumbers)]
			a := impl.Matrix{Cols: x, Rows: q}
			is(t, fmt.Sprint("again ", f, p, q), linearAnswers(f, p, q, list, x, a), linearAnswers(f, p, q, list, x, a))
		}
	}
}

func TestNilLinearsAreEmptyLinears(t *testing.T) {
	one, none := []int64{1}, []int64{}
	for _, f := range append(allFields(), noFields...) {
		a := impl.Matrix{Cols: 1, Rows: one}
		is(t, fmt.Sprint("p ", f), linearAnswers(f, none, one, one, 1, a), linearAnswers(f, nil, one, one, 1, a))
		is(t, fmt.Sprint("q ", f), linearAnswers(f, one, none, one, 1, a), linearAnswers(f, one, nil, one, 1, a))
		is(t, fmt.Sprint("list ", f), linearAnswers(f, one, one, none, 1, a), linearAnswers(f, one, one, nil, 1, a))
		is(t, fmt.Sprint("all ", f), linearAnswers(f, none, none, none, 1, impl.Matrix{Cols: 1, Rows: none}), linearAnswers(f, nil, nil, nil, 1, impl.Matrix{Cols: 1}))
	}
}

func TestLongListsForLinears(t *testing.T) {
	f := impl.Field{Degree: 5, Poly: 37}
	long := make([]int64, 1000000)
	for i := range long {
		long[i] = int64(i+1) % 32
	}
	is(t, "valid", false, impl.ValidLinear(f, long))
	refuseAll(t, "long list", f, long, []int64{1}, 1)
	refuseMaps(t, "long list", f, long, long)
	listed(t, "annihilator", []int64{1, 0, 0, 0, 0, 1})(impl.AnnihilatorOf(f, long))
	refusedList(t, "interpolated", impl.ErrState)(impl.InterpolateLinear(f, long, long))
	refusedList(t, "interpolated with one value too few", impl.ErrRange)(impl.InterpolateLinear(f, long, long[1:]))
	refusedMatrix(t, "matrix", impl.ErrState)(impl.MatrixOfLinear(f, long, []int64{1}))
	refusedList(t, "of a matrix", impl.ErrState)(impl.LinearOfMatrix(f, long, identity(5)))
	refusedList(t, "of a long matrix", impl.ErrInvalid)(impl.LinearOfMatrix(f, long, impl.Matrix{Cols: 5, Rows: long}))
}

// longer returns a list with some memory behind it, and all of this memory.
func longer(list []int64) ([]int64, []int64) {
	whole := append(slices.Clone(list), 1, 77, -5)
	return whole[:len(list)], whole
}

func TestLinearsStayAsTheyAre(t *testing.T) {
	for _, f := range allFields() {
		for _, p := range append(someLinears(f), noLinears(f)...) {
			first, one := longer(p)
			second, two := longer(mixedLinear(f, 5, 3))
			basis, three := longer(someBases(f)[0])
			rows, four := longer(identity(f.Degree).Rows)
			before := fmt.Sprint(one, two, three, four)
			linearAnswers(f, first, second, basis, 1, impl.Matrix{Cols: f.Degree, Rows: rows})
			linearAnswers(f, second, first, basis, 1, impl.Matrix{Cols: f.Degree, Rows: rows})
			linearAnswers(f, first, first, first, 1, impl.Matrix{Cols: f.Degree, Rows: first})
			is(t, fmt.Sprint(f, " arguments ", p), before, fmt.Sprint(one, two, three, four))
		}
	}
}

// linearResults are all lists that chapter 3 returns for arguments for which there are results.
func linearResults(t *testing.T, f impl.Field, p, q, basis []int64, a impl.Matrix) [][]int64 {
	t.Helper()
	var lists [][]int64
	add := func(list []int64, code int64) {
		t.Helper()
		is(t, "code", impl.OK, code)
		lists = append(lists, list)
	}
	addBoth := func(one, two []int64, code int64) {
		t.Helper()
		add(one, code)
		add(two, code)
	}
	add(impl.SumLinear(f, p, nil))
	add(impl.SumLinear(f, nil, p))
	add(impl.ComposeLinear(f, p, []int64{1}))
	add(impl.ComposeLinear(f, []int64{1}, p))
	addBoth(impl.DivideRight(f, p, q))
	addBoth(impl.DivideRight(f, q, p))
	addBoth(impl.DivideLeft(f, p, q))
	addBoth(impl.DivideLeft(f, q, p))
	addBoth(impl.DivideLeft(f, p, []int64{1}))
	add(impl.GreatestRight(f, p, nil))
	add(impl.GreatestRight(f, p, p))
	add(impl.LeastLeft(f, p, []int64{1}))
	add(impl.RootsOf(f, p))
	add(impl.AnnihilatorOf(f, basis))
	add(impl.InterpolateLinear(f, basis, basis))
	add(impl.FoldLinear(f, p))
	b, code := impl.MatrixOfLinear(f, basis, p)
	add(b.Rows, code)
	add(impl.LinearOfMatrix(f, basis, a))
	add(impl.AdjointLinear(f, p))
	add(impl.InverseLinear(f, []int64{1}))
	return lists
}

func TestLinearsOfResultsAreNewMemory(t *testing.T) {
	for _, f := range allFields() {
		p, q, basis, a := []int64{1}, mixedLinear(f, 4, 2), someBases(f)[0], identity(f.Degree)
		if f.Degree > 1 {
			p = []int64{1, 1}
		}
		before := fmt.Sprint(p, q, basis, a)
		text := linearAnswers(f, p, q, basis, 1, a)
		lists := linearResults(t, f, p, q, basis, a)
		spoilEach(t, fmt.Sprint(f), lists)
		is(t, fmt.Sprint(f, " arguments"), before, fmt.Sprint(p, q, basis, a))
		is(t, fmt.Sprint(f, " results behind overwritten ones"), text, linearAnswers(f, p, q, basis, 1, a))
	}
}
