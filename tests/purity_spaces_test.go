package tests

import (
	"fmt"
	"math"
	"slices"
	"strings"
	"testing"

	"loop.example/g01144/impl"
)

// Promise 1 for chapter 2.

// matrixAnswers has everything that chapter 2 answers for some arguments, as text.
func matrixAnswers(a, b impl.Matrix, n, k int64, words string) string {
	text := fmt.Sprintln(impl.ValidMatrix(a), impl.SameMatrix(a, b), impl.IsSpace(a))
	text += fmt.Sprintf("%q\n", impl.MatrixText(a))
	text += fmt.Sprintln(impl.ReadMatrix(words))
	text += fmt.Sprintln(impl.AddMatrices(a, b))
	text += fmt.Sprintln(impl.MulMatrices(a, b))
	text += fmt.Sprintln(impl.TurnMatrix(a))
	text += fmt.Sprintln(impl.RankOf(a))
	text += fmt.Sprintln(impl.EchelonOf(a))
	text += fmt.Sprintln(impl.InverseMatrix(a))
	text += fmt.Sprintln(impl.SolveRows(a, n))
	text += fmt.Sprintln(impl.SpaceOf(a))
	text += fmt.Sprintln(impl.KernelOf(a))
	text += fmt.Sprintln(impl.DualSpace(a))
	text += fmt.Sprintln(impl.VectorsOf(a))
	text += fmt.Sprintln(impl.Contains(a, b))
	text += fmt.Sprintln(impl.SumOf(a, b))
	text += fmt.Sprintln(impl.MeetOf(a, b))
	text += fmt.Sprintln(impl.DistanceOf(a, b))
	text += fmt.Sprintln(impl.GaussNumber(n, k))
	text += fmt.Sprintln(impl.SpacesOf(n, k))
	return text
}

// oddMatrices are matrices of any numbers.
func oddMatrices() []impl.Matrix {
	list := append(slices.Clone(noMatrices), noSpaces...)
	for _, cols := range oddNumbers {
		list = append(list, impl.Matrix{Cols: cols}, impl.Matrix{Cols: cols, Rows: oddNumbers}, impl.Matrix{Cols: cols, Rows: oddNumbers[5:10]})
	}
	return append(list, someSpaces(3)[:4]...)
}

func TestEveryCallWithMatricesReturnsTheSameAgain(t *testing.T) {
	for _, a := range oddMatrices() {
		for i, b := range oddMatrices() {
			n, k := oddNumbers[i%len(oddNumbers)], oddNumbers[i*7%len(oddNumbers)]
			words := fmt.Sprintf("matrix %d\n%b\n", n, k)
			is(t, fmt.Sprint("again ", a, b), matrixAnswers(a, b, n, k, words), matrixAnswers(a, b, n, k, words))
		}
	}
	for n := int64(1); n <= 10; n++ {
		for k := int64(0); k <= n; k++ {
			is(t, fmt.Sprint("again ", n, k), matrixAnswers(impl.Matrix{}, impl.Matrix{}, n, k, ""), matrixAnswers(impl.Matrix{}, impl.Matrix{}, n, k, ""))
		}
	}
}

func TestOddTexts(t *testing.T) {
	for _, number := range oddNumbers {
		for _, begin := range []string{"matrix ", "", "matrix -", "matrix 1"} {
			for _, end := range []string{"", "\n", "\n1\n", "\n" + strings.Repeat("1", 200) + "\n", "\n" + strings.Repeat("0\n", 12)} {
				text := begin + fmt.Sprint(number) + end
				a, code := impl.ReadMatrix(text)
				if code == impl.OK {
					is(t, fmt.Sprintf("read %q", text), text, impl.MatrixText(a))
				} else {
					refusedMatrix(t, fmt.Sprintf("read %q", text), impl.ErrSyntax)(a, code)
				}
			}
		}
	}
}

func TestNilRowsAreEmptyRows(t *testing.T) {
	full := impl.Matrix{Cols: 3, Rows: []int64{1, 2, 4}}
	for _, cols := range oddNumbers {
		nilRows, emptyRows := impl.Matrix{Cols: cols}, impl.Matrix{Cols: cols, Rows: []int64{}}
		is(t, fmt.Sprint("nil ", cols), matrixAnswers(emptyRows, full, 3, 1, ""), matrixAnswers(nilRows, full, 3, 1, ""))
		is(t, fmt.Sprint("nil behind ", cols), matrixAnswers(full, emptyRows, 3, 1, ""), matrixAnswers(full, nilRows, 3, 1, ""))
		is(t, fmt.Sprint("nil twice ", cols), matrixAnswers(emptyRows, nilRows, 3, 1, ""), matrixAnswers(nilRows, emptyRows, 3, 1, ""))
	}
}

func TestManyRows(t *testing.T) {
	long := impl.Matrix{Cols: 10, Rows: make([]int64, 1000000)}
	same := impl.Matrix{Cols: 10, Rows: make([]int64, 1000000)}
	is(t, "same", true, impl.SameMatrix(long, same))
	same.Rows[999999] = 1
	is(t, "not the same", false, impl.SameMatrix(long, same))
	is(t, "valid", false, impl.ValidMatrix(long))
	is(t, "space", false, impl.IsSpace(long))
	is(t, "text", "", impl.MatrixText(long))
	refused(t, "rank", impl.ErrInvalid)(impl.RankOf(long))
	refusedMatrix(t, "kernel", impl.ErrInvalid)(impl.KernelOf(long))
	refusedMatrix(t, "sum", impl.ErrInvalid)(impl.SumOf(impl.Matrix{Cols: 10}, long))
	refusedMatrix(t, "product", impl.ErrInvalid)(impl.MulMatrices(impl.Matrix{Cols: 10}, long))
}

// withCapacity returns a matrix whose rows have some memory behind them, and all of this memory.
func withCapacity(a impl.Matrix) (impl.Matrix, []int64) {
	whole := append(slices.Clone(a.Rows), 1, 77, math.MinInt64)
	return impl.Matrix{Cols: a.Cols, Rows: whole[:len(a.Rows)]}, whole
}

func TestMatricesStayAsTheyAre(t *testing.T) {
	for _, a := range slices.Concat(noMatrices, noSpaces, someSpaces(3), someSpaces(10), largeMatrices()[300:]) {
		b := impl.Matrix{Cols: a.Cols, Rows: slices.Clone(a.Rows)}
		one, first := withCapacity(a)
		two, second := withCapacity(b)
		before := slices.Clone(first)
		matrixAnswers(one, two, 4, 2, "")
		is(t, fmt.Sprint("first argument ", a), before, first)
		is(t, fmt.Sprint("second argument ", a), before, second)
	}
}

func TestMatricesOfResultsAreNewMemory(t *testing.T) {
	u := impl.Matrix{Cols: 3, Rows: []int64{1, 2, 4}}
	v := impl.Matrix{Cols: 3, Rows: []int64{1, 2, 4}}
	zero := impl.Matrix{Cols: 3, Rows: []int64{0, 0, 0}}
	text := matrixAnswers(u, v, 4, 2, "matrix 1\n1\n")
	var results []impl.Matrix
	add := func(a impl.Matrix, code int64) {
		is(t, "code", impl.OK, code)
		results = append(results, a)
	}
	add(impl.AddMatrices(u, zero))
	add(impl.MulMatrices(u, v))
	add(impl.TurnMatrix(u))
	add(impl.EchelonOf(u))
	add(impl.SpaceOf(u))
	add(impl.InverseMatrix(u))
	add(impl.SumOf(u, v))
	add(impl.MeetOf(u, v))
	add(impl.KernelOf(impl.Matrix{Cols: 3}))
	add(impl.DualSpace(impl.Matrix{Cols: 3}))
	add(impl.ReadMatrix("matrix 1\n1\n"))
	vectors, _ := impl.VectorsOf(u)
	list, _ := impl.SpacesOf(4, 2)
	want := fmt.Sprint(list[1:])
	spoil(list[0].Rows)
	is(t, "the other spaces", want, fmt.Sprint(list[1:]))
	spoil(vectors)
	for i, a := range results {
		others := fmt.Sprint(results[i+1:])
		spoil(a.Rows)
		is(t, fmt.Sprint("results behind the result ", i), others, fmt.Sprint(results[i+1:]))
	}
	is(t, "arguments", "{3 [1 2 4]} {3 [1 2 4]}", fmt.Sprint(u, v))
	is(t, "results behind overwritten ones", text, matrixAnswers(u, v, 4, 2, "matrix 1\n1\n"))
}
