package tests

import (
	"fmt"
	"math"
	"slices"
	"testing"

	"loop.example/g01144/impl"
)

// Promise 7: linear polynomials are interpolated, have matrices, inverses and adjoints.

// checkInterpolation uses that there is just one with so few coefficients.
func checkInterpolation(t *testing.T, f impl.Field, xs, ys []int64) {
	t.Helper()
	name := fmt.Sprint(f, " interpolated ", xs, ys)
	if !independent(xs) {
		refusedList(t, name, impl.ErrState)(impl.InterpolateLinear(f, xs, ys))
		return
	}
	p, code := impl.InterpolateLinear(f, xs, ys)
	is(t, name, fmt.Sprint(0, true), fmt.Sprint(code, isLinear(f, p) && len(p) <= len(xs)))
	for i, x := range xs {
		is(t, fmt.Sprint(name, " at ", i), ys[i], valueOfLinear(f, p, x))
	}
}

func TestAllInterpolationsOfSmallFields(t *testing.T) {
	for _, f := range allFields() {
		lengths := map[int64]int64{1: 2, 2: 3, 3: 2}
		for length := int64(0); length <= lengths[f.Degree]; length++ {
			listsOf(f, length, func(xs []int64) {
				xs = slices.Clone(xs)
				listsOf(f, length, func(ys []int64) { checkInterpolation(t, f, xs, ys) })
			})
		}
	}
}

func TestInterpolations(t *testing.T) {
	for _, f := range allFields() {
		for _, xs := range slices.Concat(someBases(f), noBases(f), [][]int64{{}, {1}, {0}, {1, 1}, {0, 1}}) {
			for seed := int64(0); seed < 10; seed++ {
				ys := mixedLinear(f, int64(len(xs)), seed)
				checkInterpolation(t, f, xs, ys)
				checkInterpolation(t, f, xs[:len(xs)/2], ys[:len(xs)/2])
			}
			checkInterpolation(t, f, xs, make([]int64, len(xs)))
			checkInterpolation(t, f, xs, xs)
		}
	}
}

func TestInterpolationsGiveShortOnesBack(t *testing.T) {
	for _, f := range allFields() {
		for _, xs := range someBases(f) {
			for terms := int64(0); terms <= f.Degree; terms++ {
				p := mixedLinear(f, terms, 6)
				var ys []int64
				for _, x := range xs {
					ys = append(ys, valueOfLinear(f, p, x))
				}
				listed(t, fmt.Sprint(f, " from values ", xs, ys), p)(impl.InterpolateLinear(f, xs, ys))
				listed(t, fmt.Sprint(f, " from just enough values ", xs, ys), p)(impl.InterpolateLinear(f, xs[:terms], ys[:terms]))
			}
		}
	}
}

func TestInterpolationsOfListsThatDoNotFit(t *testing.T) {
	for _, f := range allFields() {
		one := []int64{1}
		refusedList(t, "empty and 1", impl.ErrRange)(impl.InterpolateLinear(f, nil, one))
		refusedList(t, "1 and empty", impl.ErrRange)(impl.InterpolateLinear(f, one, nil))
		// That there is a sum that is 0 comes behind.
		refusedList(t, "2 and 1", impl.ErrRange)(impl.InterpolateLinear(f, []int64{1, 1}, one))
		refusedList(t, "0 and empty", impl.ErrRange)(impl.InterpolateLinear(f, []int64{0}, nil))
		refusedList(t, "0", impl.ErrState)(impl.InterpolateLinear(f, []int64{0}, []int64{0}))
		refusedList(t, "twice the same", impl.ErrState)(impl.InterpolateLinear(f, []int64{1, 1}, []int64{1, 1}))
		refusedList(t, "twice the same with different values", impl.ErrState)(impl.InterpolateLinear(f, []int64{1, 1}, []int64{0, 1}))
		listed(t, "both empty", nil)(impl.InterpolateLinear(f, nil, []int64{}))
		for _, a := range noElements(f) {
			name := fmt.Sprint(f, " no element ", a)
			refusedList(t, name, impl.ErrRange)(impl.InterpolateLinear(f, []int64{a}, one))
			refusedList(t, name, impl.ErrRange)(impl.InterpolateLinear(f, one, []int64{a}))
			refusedList(t, name, impl.ErrRange)(impl.InterpolateLinear(f, []int64{1, 1}, []int64{1, a}))
			refusedList(t, name, impl.ErrRange)(impl.InterpolateLinear(f, []int64{0, 0, a}, []int64{0, 0, 0}))
		}
	}
	f := impl.Field{Degree: 3, Poly: 11}
	refusedList(t, "a sum of three is 0", impl.ErrState)(impl.InterpolateLinear(f, []int64{3, 5, 6}, []int64{1, 2, 3}))
	refusedList(t, "more than there can be", impl.ErrState)(impl.InterpolateLinear(f, []int64{1, 2, 4, 7}, []int64{1, 2, 4, 7}))
}

// foldedOf adds the coefficients whose indices have the same rest.
func foldedOf(f impl.Field, p []int64) []int64 {
	sum := make([]int64, f.Degree)
	for i, a := range p {
		sum[int64(i)%f.Degree] ^= a
	}
	return cut(sum)
}

func TestFolds(t *testing.T) {
	for _, f := range allFields() {
		for _, p := range linearsToTry(f) {
			name := fmt.Sprint(f, " folded ", p)
			want := foldedOf(f, p)
			listed(t, name, want)(impl.FoldLinear(f, p))
			listed(t, name+" again", want)(impl.FoldLinear(f, want))
			is(t, name+": values", valuesOfLinear(f, p), valuesOfLinear(f, want))
		}
		// The coefficients with the same rest give 0.
		none := make([]int64, f.Degree+1)
		none[0], none[f.Degree] = 1, 1
		listed(t, "folded to nothing", nil)(impl.FoldLinear(f, none))
	}
}

func TestRanksOfLinears(t *testing.T) {
	for _, f := range allFields() {
		for _, p := range linearsToTry(f) {
			name := fmt.Sprint(f, " rank of ", p)
			values := valuesOfLinear(f, p)
			slices.Sort(values)
			values = slices.Compact(values)
			value(t, name, dimensionOf(values))(impl.RankOfLinear(f, p))
			a, _ := impl.MatrixOfLinear(f, someBases(f)[0], p)
			value(t, name+" is that of the matrix", dimensionOf(values))(impl.RankOf(a))
		}
	}
}

func TestMatricesOfLinears(t *testing.T) {
	for _, f := range allFields() {
		for _, basis := range someBases(f) {
			for _, p := range linearsToTry(f) {
				name := fmt.Sprint(f, " matrix of ", basis, p)
				a, code := impl.MatrixOfLinear(f, basis, p)
				is(t, name, fmt.Sprint(0, f.Degree, f.Degree), fmt.Sprint(code, a.Cols, int64(len(a.Rows))))
				for i, r := range a.Rows {
					is(t, fmt.Sprint(name, " row ", i), valueOfLinear(f, p, basis[i]), sumOf(basis, r))
				}
				is(t, name+" is valid", true, impl.ValidMatrix(a))
				listed(t, name+" and back", foldedOf(f, p))(impl.LinearOfMatrix(f, basis, a))
			}
		}
	}
}

func TestMatricesOfCompositionsAreProducts(t *testing.T) {
	for _, f := range allFields() {
		for _, basis := range someBases(f)[:1] {
			for _, p := range someLinears(f) {
				for _, q := range someLinears(f) {
					pq := foldedOf(f, composition(f, p, q))
					inside, _ := impl.MatrixOfLinear(f, basis, q)
					outside, _ := impl.MatrixOfLinear(f, basis, p)
					product, _ := impl.MulMatrices(inside, outside)
					matrix(t, fmt.Sprint(f, " matrix of ", p, " of ", q), product)(impl.MatrixOfLinear(f, basis, pq))
				}
			}
		}
	}
}

// matricesToTry are all square matrices, if they are small, and some.
func matricesToTry(side int64) []impl.Matrix {
	list := []impl.Matrix{identity(side), {Cols: side, Rows: make([]int64, side)}}
	if side <= 3 {
		list = append(list, matricesOf(side, side)...)
	}
	for seed := int64(1); seed <= 30; seed++ {
		list = append(list, mixedMatrix(side, side, seed, 6))
	}
	return list
}

func TestLinearsOfMatrices(t *testing.T) {
	for _, f := range allFields() {
		for _, basis := range someBases(f) {
			for _, a := range matricesToTry(f.Degree) {
				name := fmt.Sprint(f, " of the matrix ", basis, a)
				p, code := impl.LinearOfMatrix(f, basis, a)
				is(t, name, fmt.Sprint(0, true), fmt.Sprint(code, isLinear(f, p) && int64(len(p)) <= f.Degree))
				for i, b := range basis {
					is(t, fmt.Sprint(name, " at ", i), sumOf(basis, a.Rows[i]), valueOfLinear(f, p, b))
				}
				matrix(t, name+" and back", a)(impl.MatrixOfLinear(f, basis, p))
			}
		}
	}
}

func TestMatricesWithListsThatAreNoBases(t *testing.T) {
	for _, f := range allFields() {
		for _, list := range noBases(f) {
			name := fmt.Sprint(f, " no basis ", list)
			refusedMatrix(t, name, impl.ErrState)(impl.MatrixOfLinear(f, list, nil))
			refusedMatrix(t, name, impl.ErrState)(impl.MatrixOfLinear(f, list, []int64{1}))
			refusedList(t, name, impl.ErrState)(impl.LinearOfMatrix(f, list, identity(f.Degree)))
			// The sides of the matrix come ahead of the basis.
			refusedList(t, name, impl.ErrRange)(impl.LinearOfMatrix(f, list, identity(f.Degree+1)))
		}
	}
}

func TestMatricesWithOtherSides(t *testing.T) {
	for _, f := range allFields() {
		m := f.Degree
		for _, basis := range someBases(f) {
			for _, a := range []impl.Matrix{
				{Cols: m}, {Cols: m, Rows: make([]int64, m-1)}, {Cols: m, Rows: make([]int64, m+1)}, {Cols: m, Rows: make([]int64, 10)},
				{Cols: m + 1, Rows: make([]int64, m)}, {Cols: 10, Rows: make([]int64, m)}, {Cols: m%10 + 2, Rows: make([]int64, m)},
				identity(m + 1), identity(10),
			} {
				refusedList(t, fmt.Sprint(f, " sides ", a), impl.ErrRange)(impl.LinearOfMatrix(f, basis, a))
			}
			if m > 1 {
				refusedList(t, fmt.Sprint(f, " smaller"), impl.ErrRange)(impl.LinearOfMatrix(f, basis, identity(m-1)))
				refusedList(t, fmt.Sprint(f, " narrower"), impl.ErrRange)(impl.LinearOfMatrix(f, basis, impl.Matrix{Cols: m - 1, Rows: make([]int64, m)}))
			}
		}
	}
}

func TestLinearsOfMatricesThatAreNotValid(t *testing.T) {
	for _, f := range allFields() {
		for _, a := range append(slices.Clone(noMatrices), impl.Matrix{Cols: f.Degree, Rows: append(make([]int64, f.Degree-1), sizeOf(f))}) {
			for _, basis := range [][]int64{someBases(f)[0], {}, {-1}, {99, 99}} {
				refusedList(t, fmt.Sprint(f, " no matrix ", basis, a), impl.ErrInvalid)(impl.LinearOfMatrix(f, basis, a))
			}
		}
	}
}

// checkAdjoint holds both traces against each other, and uses that each map has just one adjoint.
func checkAdjoint(t *testing.T, f impl.Field, p []int64) {
	t.Helper()
	name := fmt.Sprint(f, " adjoint of ", p)
	q, code := impl.AdjointLinear(f, p)
	is(t, name, fmt.Sprint(0, true), fmt.Sprint(code, isLinear(f, q) && int64(len(q)) <= f.Degree))
	there, back := valuesOfLinear(f, p), valuesOfLinear(f, q)
	for x, px := range there {
		for y, qy := range back {
			if trace(f, times(f, int64(x), qy)) != trace(f, times(f, int64(y), px)) {
				t.Errorf("%s: the traces for %d and %d differ", name, x, y)
			}
		}
	}
	listed(t, name+", twice", foldedOf(f, p))(impl.AdjointLinear(f, q))
}

func TestAdjoints(t *testing.T) {
	for _, f := range allFields() {
		for _, p := range linearsToTry(f) {
			checkAdjoint(t, f, p)
		}
	}
	listed(t, "adjoint of 0, 2", []int64{0, 3})(impl.AdjointLinear(impl.Field{Degree: 2, Poly: 7}, []int64{0, 2}))
}

func TestAdjointsOfCompositionsAreComposedInTheOtherOrder(t *testing.T) {
	for _, f := range allFields() {
		for _, p := range someLinears(f)[:14] {
			for _, q := range someLinears(f)[:14] {
				one, _ := impl.AdjointLinear(f, p)
				two, _ := impl.AdjointLinear(f, q)
				want := foldedOf(f, composition(f, two, one))
				listed(t, fmt.Sprint(f, " adjoint of ", p, " of ", q), want)(impl.AdjointLinear(f, foldedOf(f, composition(f, p, q))))
			}
		}
	}
}

func checkInverse(t *testing.T, f impl.Field, p []int64) {
	t.Helper()
	name := fmt.Sprint(f, " inverse of ", p)
	if len(rootsOfLinear(f, p)) > 1 {
		refusedList(t, name, impl.ErrState)(impl.InverseLinear(f, p))
		return
	}
	q, code := impl.InverseLinear(f, p)
	is(t, name, fmt.Sprint(0, true), fmt.Sprint(code, isLinear(f, q) && int64(len(q)) <= f.Degree))
	for x, y := range valuesOfLinear(f, p) {
		is(t, fmt.Sprint(name, " at ", x), x, valueOfLinear(f, q, y))
		is(t, fmt.Sprint(name, " behind ", x), x, valueOfLinear(f, p, valueOfLinear(f, q, int64(x))))
	}
	listed(t, name+", twice", foldedOf(f, p))(impl.InverseLinear(f, q))
}

func TestInverseLinears(t *testing.T) {
	for _, f := range allFields() {
		for _, p := range linearsToTry(f) {
			checkInverse(t, f, p)
		}
		for seed := int64(0); seed < 40; seed++ {
			checkInverse(t, f, mixedLinear(f, seed%12+1, seed))
		}
		refusedList(t, "empty", impl.ErrState)(impl.InverseLinear(f, nil))
		refusedList(t, "root 1", impl.ErrState)(impl.InverseLinear(f, []int64{1, 1}))
	}
	for _, p := range linearsOf(impl.Field{Degree: 3, Poly: 13}, 3) {
		checkInverse(t, impl.Field{Degree: 3, Poly: 13}, p)
	}
}

func TestMapsOfDegree1(t *testing.T) {
	for _, poly := range []int64{2, 3} {
		f := impl.Field{Degree: 1, Poly: poly}
		basis := []int64{1}
		listed(t, "interpolated", []int64{1})(impl.InterpolateLinear(f, basis, []int64{1}))
		listed(t, "interpolated to 0", nil)(impl.InterpolateLinear(f, basis, []int64{0}))
		listed(t, "folded", []int64{1})(impl.FoldLinear(f, []int64{1, 1, 0, 0, 1}))
		listed(t, "folded to nothing", nil)(impl.FoldLinear(f, []int64{1, 1}))
		value(t, "rank 1", 1)(impl.RankOfLinear(f, []int64{0, 1}))
		value(t, "rank 0", 0)(impl.RankOfLinear(f, []int64{1, 1}))
		matrix(t, "matrix", impl.Matrix{Cols: 1, Rows: []int64{1}})(impl.MatrixOfLinear(f, basis, []int64{0, 0, 1}))
		matrix(t, "matrix of nothing", impl.Matrix{Cols: 1, Rows: []int64{0}})(impl.MatrixOfLinear(f, basis, nil))
		listed(t, "of a matrix", []int64{1})(impl.LinearOfMatrix(f, basis, identity(1)))
		listed(t, "adjoint", []int64{1})(impl.AdjointLinear(f, []int64{0, 1}))
		listed(t, "inverse", []int64{1})(impl.InverseLinear(f, []int64{1, 1, 1}))
		refusedList(t, "no inverse", impl.ErrState)(impl.InverseLinear(f, []int64{1, 1}))
	}
}

func TestMapsOfTheEmptyOne(t *testing.T) {
	for _, f := range allFields() {
		listed(t, "folded", nil)(impl.FoldLinear(f, nil))
		value(t, "rank", 0)(impl.RankOfLinear(f, nil))
		zeros := impl.Matrix{Cols: f.Degree, Rows: make([]int64, f.Degree)}
		matrix(t, "matrix", zeros)(impl.MatrixOfLinear(f, someBases(f)[0], nil))
		listed(t, "of the matrix", nil)(impl.LinearOfMatrix(f, someBases(f)[0], zeros))
		listed(t, "adjoint", nil)(impl.AdjointLinear(f, nil))
	}
}

// refuseMaps asks all functions of this promise that take a linear polynomial.
func refuseMaps(t *testing.T, name string, f impl.Field, basis, p []int64) {
	t.Helper()
	refusedList(t, name+" FoldLinear", impl.ErrInvalid)(impl.FoldLinear(f, p))
	refused(t, name+" RankOfLinear", impl.ErrInvalid)(impl.RankOfLinear(f, p))
	refusedMatrix(t, name+" MatrixOfLinear", impl.ErrInvalid)(impl.MatrixOfLinear(f, basis, p))
	refusedList(t, name+" AdjointLinear", impl.ErrInvalid)(impl.AdjointLinear(f, p))
	refusedList(t, name+" InverseLinear", impl.ErrInvalid)(impl.InverseLinear(f, p))
}

func TestMapsOfListsThatAreNoLinears(t *testing.T) {
	for _, f := range allFields() {
		for _, p := range noLinears(f) {
			// The basis may be wrong as well.
			for _, basis := range [][]int64{someBases(f)[0], {}, {0}, {-1}, {1, 1, 1, 1, 1, 99}} {
				refuseMaps(t, fmt.Sprint(f, basis, p), f, basis, p)
			}
		}
	}
}

func TestNoFieldsForMaps(t *testing.T) {
	for _, f := range noFields {
		for _, a := range []int64{0, 1, -1, 99, math.MinInt64} {
			name := fmt.Sprint("no field ", f, a)
			refuseMaps(t, name, f, []int64{a}, []int64{a})
			refuseMaps(t, name, f, nil, nil)
			refusedList(t, name, impl.ErrInvalid)(impl.InterpolateLinear(f, []int64{a}, []int64{a, a}))
			refusedList(t, name, impl.ErrInvalid)(impl.InterpolateLinear(f, []int64{a}, []int64{a}))
			refusedList(t, name, impl.ErrInvalid)(impl.LinearOfMatrix(f, []int64{a}, identity(1)))
			refusedList(t, name, impl.ErrInvalid)(impl.LinearOfMatrix(f, []int64{a}, impl.Matrix{}))
		}
	}
}

func TestMapsWithNumbersThatAreNoElements(t *testing.T) {
	for _, f := range allFields() {
		for _, a := range noElements(f) {
			name := fmt.Sprint(f, " no element ", a)
			basis := someBases(f)[0]
			replaced := append(slices.Clone(basis[1:]), a)
			for _, list := range [][]int64{replaced, append(slices.Clone(basis), a), {a}, {0, 0, 0, 0, 0, 0, 0, a}} {
				refusedMatrix(t, name, impl.ErrRange)(impl.MatrixOfLinear(f, list, []int64{1}))
				refusedMatrix(t, name, impl.ErrRange)(impl.MatrixOfLinear(f, list, nil))
				refusedList(t, name, impl.ErrRange)(impl.LinearOfMatrix(f, list, identity(f.Degree)))
				refusedList(t, name, impl.ErrRange)(impl.LinearOfMatrix(f, list, identity(10)))
			}
		}
	}
}
