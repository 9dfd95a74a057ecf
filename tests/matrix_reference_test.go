package tests

import (
	"fmt"
	"math"
	"slices"
	"testing"

	"loop.example/g01144/impl"
)

// What the tests of chapter 2 hold the program against: sets of rows, found by looking at all rows.

// noMatrices are invalid, each for a reason of its own.
var noMatrices = []impl.Matrix{
	{},
	{Cols: 0, Rows: []int64{0}},
	{Cols: -1},
	{Cols: -1, Rows: []int64{0}},
	{Cols: 11},
	{Cols: 11, Rows: []int64{1}},
	{Cols: 64, Rows: []int64{1}},
	{Cols: math.MaxInt64, Rows: []int64{1}},
	{Cols: math.MinInt64, Rows: []int64{1}},
	{Cols: 1, Rows: []int64{2}},
	{Cols: 3, Rows: []int64{8}},
	{Cols: 3, Rows: []int64{1, 2, 8}},
	{Cols: 3, Rows: []int64{-1}},
	{Cols: 3, Rows: []int64{1, 2, -8}},
	{Cols: 3, Rows: []int64{1<<32 + 1}},
	{Cols: 3, Rows: []int64{math.MaxInt64}},
	{Cols: 3, Rows: []int64{math.MinInt64}},
	{Cols: 10, Rows: []int64{1024}},
	{Cols: 10, Rows: []int64{1, 2, 4, 8, 16, 32, 64, 128, 256, 512, 1023}},
	{Cols: 3, Rows: make([]int64, 11)},
}

// noSpaces are valid matrices which are not in echelon form, each for a reason of its own.
var noSpaces = []impl.Matrix{
	{Cols: 1, Rows: []int64{0}},
	{Cols: 1, Rows: []int64{1, 1}},
	{Cols: 2, Rows: []int64{2, 1}},
	{Cols: 2, Rows: []int64{3, 2}},
	{Cols: 2, Rows: []int64{1, 3}},
	{Cols: 3, Rows: []int64{1, 0}},
	{Cols: 3, Rows: []int64{0, 1}},
	{Cols: 3, Rows: []int64{4, 1}},
	{Cols: 3, Rows: []int64{1, 6, 4}},
	{Cols: 3, Rows: []int64{5, 2, 4}},
	{Cols: 3, Rows: []int64{1, 2, 4, 0}},
	{Cols: 10, Rows: []int64{1, 2, 4, 8, 16, 32, 64, 128, 512, 256}},
	{Cols: 10, Rows: make([]int64, 10)},
}

// matricesOf are all matrices with so many columns and rows.
func matricesOf(cols, rows int64) []impl.Matrix {
	var list []impl.Matrix
	for number := int64(0); number < 1<<(cols*rows); number++ {
		a := impl.Matrix{Cols: cols}
		for i := int64(0); i < rows; i++ {
			a.Rows = append(a.Rows, number>>(cols*i)&(1<<cols-1))
		}
		list = append(list, a)
	}
	return list
}

// smallMatrices are all matrices with at most 3 columns and rows.
func smallMatrices() []impl.Matrix {
	var list []impl.Matrix
	for cols := int64(1); cols <= 3; cols++ {
		for rows := int64(0); rows <= 3; rows++ {
			list = append(list, matricesOf(cols, rows)...)
		}
	}
	return list
}

// mixedMatrix is a matrix that looks as if it had been drawn by lot: with few different rows, if several is small.
func mixedMatrix(cols, rows, seed, several int64) impl.Matrix {
	state := seed*2 + 1
	next := func() int64 {
		state = (state*1103515245 + 12345) % (1 << 31)
		return state >> 12
	}
	var pool []int64
	for i := int64(0); i < several; i++ {
		pool = append(pool, next()%(1<<cols))
	}
	a := impl.Matrix{Cols: cols}
	for i := int64(0); i < rows; i++ {
		a.Rows = append(a.Rows, sumOf(pool, next()%(1<<several)))
	}
	return a
}

// largeMatrices are some matrices of all sizes, up to MaxSide columns and rows.
func largeMatrices() []impl.Matrix {
	var list []impl.Matrix
	for cols := int64(1); cols <= 10; cols++ {
		for rows := int64(0); rows <= 10; rows++ {
			for _, several := range []int64{1, 3, 6, 12} {
				list = append(list, mixedMatrix(cols, rows, cols*100+rows*10+several, several))
			}
		}
	}
	full := []int64{1023, 1022, 1020, 1016, 1008, 992, 960, 896, 768, 512}
	return append(list, impl.Matrix{Cols: 10, Rows: full}, impl.Matrix{Cols: 10}, impl.Matrix{Cols: 10, Rows: make([]int64, 10)})
}

// someSpaces are some spaces of all dimensions with so many columns, in echelon form.
func someSpaces(cols int64) []impl.Matrix {
	list := []impl.Matrix{{Cols: cols}}
	for _, several := range []int64{1, 2, 3, 5, 8, 12} {
		for seed := int64(1); seed <= 3; seed++ {
			list = append(list, spaceOfRows(cols, sumsOf(mixedMatrix(cols, several, seed*7+several, several))))
		}
	}
	return list
}

// sumsOf are all sums of rows, each once, in ascending order.
func sumsOf(a impl.Matrix) []int64 {
	var list []int64
	for number := int64(0); number < 1<<len(a.Rows); number++ {
		list = append(list, sumOf(a.Rows, number))
	}
	slices.Sort(list)
	return slices.Compact(list)
}

// dimensionOf is the number of times that a number of rows can be halved.
func dimensionOf(rows []int64) int64 {
	dimension := int64(0)
	for n := len(rows); n > 1; n /= 2 {
		dimension++
	}
	return dimension
}

// leadOf is the first column with a 1.
func leadOf(row int64) int64 {
	column := int64(0)
	for row>>column&1 == 0 {
		column++
	}
	return column
}

// spaceOfRows has, of all rows of a space with a lead in some column, the one with zeros in the columns of other leads.
func spaceOfRows(cols int64, rows []int64) impl.Matrix {
	leads := int64(0)
	for _, r := range rows {
		if r != 0 {
			leads |= 1 << leadOf(r)
		}
	}
	a := impl.Matrix{Cols: cols}
	for column := int64(0); column < cols; column++ {
		for _, r := range rows {
			if r&leads == 1<<column {
				a.Rows = append(a.Rows, r)
			}
		}
	}
	return a
}

// isEchelon asks what the document asks of an echelon form.
func isEchelon(rows []int64) bool {
	for i, r := range rows {
		if r == 0 || i > 0 && leadOf(r) <= leadOf(rows[i-1]) {
			return false
		}
		for k, other := range rows {
			if i != k && other>>leadOf(r)&1 == 1 {
				return false
			}
		}
	}
	return true
}

// innerProduct counts columns.
func innerProduct(r, s int64) int64 {
	n := int64(0)
	for column := 0; column < 10; column++ {
		if r>>column&1 == 1 && s>>column&1 == 1 {
			n++
		}
	}
	return n % 2
}

// kernelOf has all rows whose products are 0.
func kernelOf(a impl.Matrix) []int64 {
	var list []int64
	for r := int64(0); r < 1<<a.Cols; r++ {
		if !slices.ContainsFunc(a.Rows, func(s int64) bool { return innerProduct(r, s) == 1 }) {
			list = append(list, r)
		}
	}
	return list
}

// commonOf has what is in both lists.
func commonOf(one, two []int64) []int64 {
	var list []int64
	for _, r := range one {
		if slices.Contains(two, r) {
			list = append(list, r)
		}
	}
	return list
}

// joinedOf has the sums of one of each list.
func joinedOf(one, two []int64) []int64 {
	var list []int64
	for _, r := range one {
		for _, s := range two {
			list = append(list, r^s)
		}
		slices.Sort(list)
		list = slices.Compact(list)
	}
	return list
}

// matrix asks for a matrix and OK.
func matrix(t *testing.T, name string, want impl.Matrix) func(got impl.Matrix, code int64) {
	return func(got impl.Matrix, code int64) {
		t.Helper()
		if fmt.Sprint(got) != fmt.Sprint(want) || code != impl.OK {
			t.Errorf("%s: got %v with the code %d, want %v with 0", name, got, code, want)
		}
	}
}

// refusedMatrix asks for a code and no matrix.
func refusedMatrix(t *testing.T, name string, want int64) func(got impl.Matrix, code int64) {
	return func(got impl.Matrix, code int64) {
		t.Helper()
		if got.Cols != 0 || len(got.Rows) != 0 || code != want {
			t.Errorf("%s: got %v with the code %d, want no matrix with %d", name, got, code, want)
		}
	}
}
