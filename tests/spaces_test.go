package tests

import (
	"fmt"
	"math"
	"slices"
	"testing"

	"loop.example/g01144/impl"
)

// Promise 5: kernels, duals, sums, meets and distances of spaces are what they should be, and all spaces are listed.

// spacesListed are all spaces with so many columns, in the order of their lists of rows: all lists of rows are looked at.
func spacesListed(cols, dimension int64) []impl.Matrix {
	list := []impl.Matrix{}
	var try func(rows []int64)
	try = func(rows []int64) {
		if int64(len(rows)) == dimension {
			if isEchelon(rows) {
				list = append(list, impl.Matrix{Cols: cols, Rows: slices.Clone(rows)})
			}
			return
		}
		for r := int64(1); r < 1<<cols; r++ {
			try(append(rows, r))
		}
	}
	try(nil)
	return list
}

// smallSpaces are all spaces with so many columns.
func smallSpaces(cols int64) []impl.Matrix {
	var list []impl.Matrix
	for dimension := int64(0); dimension <= cols; dimension++ {
		list = append(list, spacesListed(cols, dimension)...)
	}
	return list
}

func TestIsSpace(t *testing.T) {
	for _, a := range slices.Concat(smallMatrices(), largeMatrices()) {
		is(t, fmt.Sprint("IsSpace ", a), isEchelon(a.Rows), impl.IsSpace(a))
	}
	for cols := int64(1); cols <= 10; cols++ {
		for _, u := range someSpaces(cols) {
			is(t, fmt.Sprint("IsSpace ", u), true, impl.IsSpace(u))
		}
	}
	for _, a := range append(noSpaces, noMatrices...) {
		is(t, fmt.Sprint("IsSpace ", a), false, impl.IsSpace(a))
	}
}

func TestKernels(t *testing.T) {
	for _, a := range slices.Concat(smallMatrices(), largeMatrices(), noSpaces) {
		want := spaceOfRows(a.Cols, kernelOf(a))
		matrix(t, fmt.Sprint("kernel of ", a), want)(impl.KernelOf(a))
	}
}

func TestDuals(t *testing.T) {
	for cols := int64(1); cols <= 10; cols++ {
		for _, u := range someSpaces(cols) {
			want := spaceOfRows(cols, kernelOf(u))
			matrix(t, fmt.Sprint("dual of ", u), want)(impl.DualSpace(u))
			matrix(t, fmt.Sprint("dual of the dual of ", u), u)(impl.DualSpace(want))
			is(t, fmt.Sprint("dimensions of ", u, want), int(cols), len(u.Rows)+len(want.Rows))
		}
	}
}

func TestVectors(t *testing.T) {
	for cols := int64(1); cols <= 10; cols++ {
		for _, u := range someSpaces(cols) {
			name := fmt.Sprint("rows of ", u)
			if len(sumsOf(u)) > 400 {
				refusedList(t, name, impl.ErrLimit)(impl.VectorsOf(u))
			} else {
				listed(t, name, sumsOf(u))(impl.VectorsOf(u))
			}
		}
	}
	ten := identity(10)
	refusedList(t, "1024 rows", impl.ErrLimit)(impl.VectorsOf(ten))
	refusedList(t, "512 rows", impl.ErrLimit)(impl.VectorsOf(impl.Matrix{Cols: 10, Rows: ten.Rows[1:]}))
	listed(t, "256 rows", sumsOf(impl.Matrix{Cols: 10, Rows: ten.Rows[2:]}))(impl.VectorsOf(impl.Matrix{Cols: 10, Rows: ten.Rows[2:]}))
	listed(t, "the row 0 alone", []int64{0})(impl.VectorsOf(impl.Matrix{Cols: 4}))
	listed(t, "ascending rows", []int64{0, 3, 5, 6})(impl.VectorsOf(impl.Matrix{Cols: 3, Rows: []int64{5, 6}}))
}

// checkPair holds what two spaces give together against the sets of their rows.
func checkPair(t *testing.T, u, v impl.Matrix) {
	t.Helper()
	name := fmt.Sprint(" of ", u, v)
	one, two := sumsOf(u), sumsOf(v)
	joined, common := joinedOf(one, two), commonOf(one, two)
	matrix(t, "sum"+name, spaceOfRows(u.Cols, joined))(impl.SumOf(u, v))
	matrix(t, "meet"+name, spaceOfRows(u.Cols, common))(impl.MeetOf(u, v))
	value(t, "distance"+name, dimensionOf(joined)-dimensionOf(common))(impl.DistanceOf(u, v))
	told(t, "contains"+name, len(common) == len(two), impl.OK)(impl.Contains(u, v))
	is(t, "dimensions"+name, len(u.Rows)+len(v.Rows), int(dimensionOf(joined)+dimensionOf(common)))
}

func TestPairsOfSpaces(t *testing.T) {
	for cols := int64(1); cols <= 3; cols++ {
		for _, u := range smallSpaces(cols) {
			for _, v := range smallSpaces(cols) {
				checkPair(t, u, v)
			}
		}
	}
	for _, cols := range []int64{4, 6, 7, 10} {
		spaces := someSpaces(cols)
		for _, u := range spaces[:11] {
			for _, v := range spaces {
				checkPair(t, u, v)
			}
		}
	}
	checkPair(t, identity(10), identity(10))
	checkPair(t, identity(10), impl.Matrix{Cols: 10})
	checkPair(t, impl.Matrix{Cols: 10}, impl.Matrix{Cols: 10})
}

func TestDualsOfSumsAreMeetsOfDuals(t *testing.T) {
	for cols := int64(1); cols <= 10; cols++ {
		for _, u := range someSpaces(cols) {
			for _, v := range someSpaces(cols)[:10] {
				sum, _ := impl.SumOf(u, v)
				dual, _ := impl.DualSpace(sum)
				one, _ := impl.DualSpace(u)
				two, _ := impl.DualSpace(v)
				matrix(t, fmt.Sprint("meet of duals of ", u, v), dual)(impl.MeetOf(one, two))
			}
		}
	}
}

func TestDistancesAreThoseOfAMetric(t *testing.T) {
	spaces := smallSpaces(3)
	for _, u := range spaces {
		for _, v := range spaces {
			there, _ := impl.DistanceOf(u, v)
			value(t, fmt.Sprint("back ", u, v), there)(impl.DistanceOf(v, u))
			is(t, fmt.Sprint("the same ", u, v), impl.SameMatrix(u, v), there == 0)
			for _, w := range spaces {
				one, _ := impl.DistanceOf(u, w)
				two, _ := impl.DistanceOf(w, v)
				is(t, fmt.Sprint("no way round is shorter ", u, w, v), true, there <= one+two)
			}
		}
	}
}

func TestDifferentColumns(t *testing.T) {
	for _, u := range []impl.Matrix{{Cols: 3}, {Cols: 3, Rows: []int64{1, 2, 4}}, {Cols: 10, Rows: []int64{1}}} {
		for _, v := range []impl.Matrix{{Cols: 2}, {Cols: 4}, {Cols: 4, Rows: []int64{1, 2, 4}}, {Cols: 9, Rows: []int64{1}}} {
			name := fmt.Sprint("columns ", u, v)
			told(t, name, false, impl.ErrRange)(impl.Contains(u, v))
			refusedMatrix(t, name, impl.ErrRange)(impl.SumOf(u, v))
			refusedMatrix(t, name, impl.ErrRange)(impl.MeetOf(u, v))
			refused(t, name, impl.ErrRange)(impl.DistanceOf(u, v))
		}
	}
}

// countByLists counts the lists of k rows of which no sum is 0 with n columns, and divides by those of one space.
func countByLists(n, k int64) int64 {
	above, below := int64(1), int64(1)
	for i := int64(0); i < k; i++ {
		above *= 1<<n - 1<<i
		below *= 1<<k - 1<<i
		// Both are divided by what they have in common, lest they become too great.
		a, b := above, below
		for b != 0 {
			a, b = b, a%b
		}
		above, below = above/a, below/a
	}
	return above / below
}

func TestGaussNumbers(t *testing.T) {
	for n := int64(1); n <= 10; n++ {
		for k := int64(0); k <= n; k++ {
			value(t, fmt.Sprint("GaussNumber ", n, k), countByLists(n, k))(impl.GaussNumber(n, k))
		}
		for _, k := range []int64{-1, n + 1, 63, 64, math.MaxInt64, math.MinInt64} {
			refused(t, fmt.Sprint("GaussNumber ", n, k), impl.ErrRange)(impl.GaussNumber(n, k))
		}
	}
	for _, n := range []int64{0, -1, 11, 64, math.MaxInt64, math.MinInt64} {
		for _, k := range []int64{0, 1, n} {
			refused(t, fmt.Sprint("GaussNumber ", n, k), impl.ErrRange)(impl.GaussNumber(n, k))
		}
	}
	value(t, "the greatest one", 109221651)(impl.GaussNumber(10, 5))
}

func TestSpacesAreListed(t *testing.T) {
	for n := int64(1); n <= 4; n++ {
		for k := int64(0); k <= n; k++ {
			list, code := impl.SpacesOf(n, k)
			is(t, fmt.Sprint("SpacesOf ", n, k), fmt.Sprint(spacesListed(n, k), impl.OK), fmt.Sprint(list, code))
		}
	}
	list, code := impl.SpacesOf(5, 2)
	is(t, "SpacesOf 5 2", fmt.Sprint(spacesListed(5, 2), impl.OK), fmt.Sprint(list, code))
}

// TestManySpacesAreListed uses that there are no more than have been counted.
func TestManySpacesAreListed(t *testing.T) {
	for n := int64(1); n <= 10; n++ {
		for k := int64(0); k <= n; k++ {
			name := fmt.Sprint("SpacesOf ", n, k)
			list, code := impl.SpacesOf(n, k)
			if countByLists(n, k) > 400 {
				is(t, name, "0 3", fmt.Sprint(len(list), code))
				continue
			}
			is(t, name, fmt.Sprint(countByLists(n, k), 0), fmt.Sprint(len(list), code))
			for i, u := range list {
				is(t, fmt.Sprint(name, i, u), true, u.Cols == n && int64(len(u.Rows)) == k && isEchelon(u.Rows))
				if i > 0 {
					is(t, fmt.Sprint(name, " order ", i), -1, slices.Compare(list[i-1].Rows, u.Rows))
				}
			}
		}
	}
}

func TestListsOfSpacesThatAreNone(t *testing.T) {
	for _, n := range []int64{-1, 0, 11, 64, math.MaxInt64, math.MinInt64} {
		for _, k := range []int64{-1, 0, 1, 5, 64, math.MaxInt64} {
			list, code := impl.SpacesOf(n, k)
			is(t, fmt.Sprint("SpacesOf ", n, k), "[] 2", fmt.Sprint(list, code))
		}
	}
	for _, n := range []int64{1, 2, 9, 10} {
		for _, k := range []int64{-1, n + 1, 11, 64, math.MaxInt64, math.MinInt64} {
			list, code := impl.SpacesOf(n, k)
			is(t, fmt.Sprint("SpacesOf ", n, k), "[] 2", fmt.Sprint(list, code))
		}
	}
}

func TestMatricesThatAreNoSpaces(t *testing.T) {
	good := impl.Matrix{Cols: 3, Rows: []int64{1, 2}}
	for _, a := range append(noSpaces, noMatrices...) {
		name := fmt.Sprint("no space ", a)
		refusedMatrix(t, name, impl.ErrInvalid)(impl.DualSpace(a))
		refusedList(t, name, impl.ErrInvalid)(impl.VectorsOf(a))
		// The other argument is wrong as well, or has other columns: this one comes first.
		for _, b := range []impl.Matrix{a, good, {Cols: 10}, {}} {
			for _, pair := range [][2]impl.Matrix{{a, b}, {b, a}} {
				told(t, name, false, impl.ErrInvalid)(impl.Contains(pair[0], pair[1]))
				refusedMatrix(t, name, impl.ErrInvalid)(impl.SumOf(pair[0], pair[1]))
				refusedMatrix(t, name, impl.ErrInvalid)(impl.MeetOf(pair[0], pair[1]))
				refused(t, name, impl.ErrInvalid)(impl.DistanceOf(pair[0], pair[1]))
			}
		}
	}
	for _, a := range noMatrices {
		refusedMatrix(t, fmt.Sprint("no matrix ", a), impl.ErrInvalid)(impl.KernelOf(a))
		refusedMatrix(t, fmt.Sprint("no matrix ", a), impl.ErrInvalid)(impl.SpaceOf(a))
	}
}
