package tests

import (
	"fmt"
	"math"
	"slices"
	"strings"
	"testing"

	"loop.example/g01144/impl"
)

// Promise 4: matrices are read from their texts, turned, multiplied and inverted; ranks are those of echelon forms.

func TestExampleOfChapter2(t *testing.T) {
	text := "matrix 3\n110\n011\n101\n"
	a, code := impl.ReadMatrix(text)
	is(t, "matrix", "{3 [3 6 5]} 0", fmt.Sprint(a, code))
	is(t, "text", text, impl.MatrixText(a))
	value(t, "rank", 2)(impl.RankOf(a))
	e, code := impl.EchelonOf(a)
	is(t, "code of the echelon form", impl.OK, code)
	is(t, "echelon form", "matrix 3\n101\n011\n", impl.MatrixText(e))
	k, code := impl.KernelOf(a)
	is(t, "code of the kernel", impl.OK, code)
	is(t, "kernel", "matrix 3\n111\n", impl.MatrixText(k))
	value(t, "GaussNumber", 35)(impl.GaussNumber(4, 2))
}

func TestLimitsOfChapter2(t *testing.T) {
	is(t, "limits", "10 400 4000", fmt.Sprint(impl.MaxSide, impl.MaxListed, impl.MaxText))
}

func TestValidMatrix(t *testing.T) {
	for _, a := range slices.Concat(smallMatrices(), largeMatrices(), noSpaces) {
		is(t, fmt.Sprint("ValidMatrix ", a), true, impl.ValidMatrix(a))
	}
	for _, a := range noMatrices {
		is(t, fmt.Sprint("ValidMatrix ", a), false, impl.ValidMatrix(a))
	}
}

func TestSameMatrix(t *testing.T) {
	// Invalid ones may be equal, too.
	all := slices.Concat(matricesOf(1, 2), matricesOf(2, 1), matricesOf(2, 2), matricesOf(3, 0), noMatrices, noSpaces)
	for i, a := range all {
		for k, b := range all {
			same := fmt.Sprint(a) == fmt.Sprint(b)
			is(t, fmt.Sprint("SameMatrix ", a, b, i, k), same, impl.SameMatrix(a, b))
			is(t, fmt.Sprint("SameMatrix of a copy ", a, b), same, impl.SameMatrix(a, impl.Matrix{Cols: b.Cols, Rows: slices.Clone(b.Rows)}))
		}
	}
	is(t, "no rows", true, impl.SameMatrix(impl.Matrix{Cols: 3}, impl.Matrix{Cols: 3, Rows: []int64{}}))
	is(t, "other columns", false, impl.SameMatrix(impl.Matrix{Cols: 3}, impl.Matrix{Cols: 4}))
	is(t, "more rows", false, impl.SameMatrix(impl.Matrix{Cols: 3, Rows: []int64{1}}, impl.Matrix{Cols: 3, Rows: []int64{1, 0}}))
}

// textOf writes element by element.
func textOf(a impl.Matrix) string {
	text := fmt.Sprintf("matrix %d\n", a.Cols)
	for _, r := range a.Rows {
		for column := int64(0); column < a.Cols; column++ {
			text += fmt.Sprint(r >> column & 1)
		}
		text += "\n"
	}
	return text
}

func TestTextsOfMatrices(t *testing.T) {
	for _, a := range slices.Concat(smallMatrices(), largeMatrices(), noSpaces) {
		is(t, fmt.Sprint("text of ", a), textOf(a), impl.MatrixText(a))
		matrix(t, fmt.Sprint("read ", a), a)(impl.ReadMatrix(textOf(a)))
	}
	for _, a := range noMatrices {
		is(t, fmt.Sprint("text of ", a), "", impl.MatrixText(a))
	}
	is(t, "the column 0 is first", "matrix 4\n1000\n0001\n", impl.MatrixText(impl.Matrix{Cols: 4, Rows: []int64{1, 8}}))
}

func TestTextsThatAreNoMatrices(t *testing.T) {
	texts := []string{
		"", "\n", " ", "matrix", "matrix ", "matrix\n", "matrix \n", "matrix 3", "matrix 3 \n", " matrix 3\n", "matrix  3\n", "matrix\t3\n",
		"Matrix 3\n", "MATRIX 3\n", "matrix3\n", "matrix 03\n", "matrix +3\n", "matrix -3\n", "matrix 0\n", "matrix 11\n", "matrix 3.0\n",
		"matrix 0x3\n", "matrix 1_0\n1111111111\n", "matrix 99999999999999999999\n", "matrix 18446744073709551619\n", "matrix 3\r\n", "matrix 3\n\n", "\nmatrix 3\n",
		"matrix 3\n110", "matrix 3\n11\n", "matrix 3\n1100\n", "matrix 3\n110\n\n", "matrix 3\n\n110\n", "matrix 3\n112\n", "matrix 3\n1 0\n",
		"matrix 3\n 110\n", "matrix 3\n110 \n", "matrix 3\n110\r\n", "matrix 3\n1-1\n", "matrix 3\n110\n01\n", "matrix 3\n110\n011", "matrix 3 110\n",
		"matrix 3\n110\n011\n101\nx", "matrix 3\nmatrix 3\n", "matrix 3\x00\n", "matrix \uff13\n", "matrix 3\n11\u0660\n", "matrix 3\n\xff10\n", "110\n", "3\n110\n",
		"matrix 10\n00000000001\n", "matrix 1\n" + strings.Repeat("1\n", 11), "matrix 1\n" + strings.Repeat("0", 64) + "1\n", "matrix 10\n" + strings.Repeat("1111111111\n", 11),
	}
	for _, text := range texts {
		refusedMatrix(t, fmt.Sprintf("read %q", text), impl.ErrSyntax)(impl.ReadMatrix(text))
	}
}

func TestLongTexts(t *testing.T) {
	for _, begin := range []string{"", "matrix 3\n", "matrix 1\n1\n", "x"} {
		for _, part := range []string{"\n", "1", " ", "1\n", "\xff"} {
			text := (begin + strings.Repeat(part, 5000))[:4001]
			refusedMatrix(t, fmt.Sprintf("too long %q %q", begin, part), impl.ErrRange)(impl.ReadMatrix(text))
			refusedMatrix(t, fmt.Sprintf("long %q %q", begin, part), impl.ErrSyntax)(impl.ReadMatrix(text[:4000]))
		}
	}
	refusedMatrix(t, "a million signs", impl.ErrRange)(impl.ReadMatrix(strings.Repeat("1", 1000000)))
	// The longest one of all matrices.
	text := "matrix 10\n" + strings.Repeat("1010101011\n", 10)
	a, code := impl.ReadMatrix(text)
	is(t, "longest text", text, impl.MatrixText(a))
	is(t, "code of the longest text", impl.OK, code)
}

func TestSumsOfMatrices(t *testing.T) {
	all := slices.Concat(matricesOf(2, 0), matricesOf(1, 2), matricesOf(2, 1), matricesOf(2, 2), matricesOf(3, 2))
	large := largeMatrices()
	for _, a := range append(all, large[len(large)-20:]...) {
		for _, b := range append(all, large[len(large)-20:]...) {
			name := fmt.Sprint("sum of ", a, b)
			if a.Cols != b.Cols || len(a.Rows) != len(b.Rows) {
				refusedMatrix(t, name, impl.ErrRange)(impl.AddMatrices(a, b))
				continue
			}
			want := impl.Matrix{Cols: a.Cols}
			for i := range a.Rows {
				want.Rows = append(want.Rows, a.Rows[i]^b.Rows[i])
			}
			matrix(t, name, want)(impl.AddMatrices(a, b))
		}
	}
}

// elementOf is 1 if the row i has a 1 in the column.
func elementOf(a impl.Matrix, i, column int64) int64 {
	return a.Rows[i] >> column & 1
}

// productOf sums products element by element.
func productOf(a, b impl.Matrix) impl.Matrix {
	product := impl.Matrix{Cols: b.Cols}
	for i := int64(0); i < int64(len(a.Rows)); i++ {
		r := int64(0)
		for column := int64(0); column < b.Cols; column++ {
			sum := int64(0)
			for k := int64(0); k < a.Cols; k++ {
				sum += elementOf(a, i, k) * elementOf(b, k, column)
			}
			r += sum % 2 << column
		}
		product.Rows = append(product.Rows, r)
	}
	return product
}

func TestProductsOfMatrices(t *testing.T) {
	small := slices.Concat(matricesOf(1, 0), matricesOf(1, 1), matricesOf(1, 2), matricesOf(2, 0), matricesOf(2, 1), matricesOf(2, 2), matricesOf(3, 2), matricesOf(2, 3))
	large := largeMatrices()
	for _, list := range [][]impl.Matrix{small, large} {
		for _, a := range list {
			for _, b := range list {
				name := fmt.Sprint("product of ", a, b)
				if a.Cols == int64(len(b.Rows)) {
					matrix(t, name, productOf(a, b))(impl.MulMatrices(a, b))
				} else {
					refusedMatrix(t, name, impl.ErrRange)(impl.MulMatrices(a, b))
				}
			}
		}
	}
	matrix(t, "no rows", impl.Matrix{Cols: 3})(impl.MulMatrices(impl.Matrix{Cols: 1}, impl.Matrix{Cols: 3, Rows: []int64{5}}))
}

func TestTurnedMatrices(t *testing.T) {
	for _, a := range append(smallMatrices(), largeMatrices()...) {
		name := fmt.Sprint("turned ", a)
		if len(a.Rows) == 0 {
			refusedMatrix(t, name, impl.ErrRange)(impl.TurnMatrix(a))
			continue
		}
		want := impl.Matrix{Cols: int64(len(a.Rows))}
		for column := int64(0); column < a.Cols; column++ {
			r := int64(0)
			for i := range a.Rows {
				r += elementOf(a, int64(i), column) << i
			}
			want.Rows = append(want.Rows, r)
		}
		matrix(t, name, want)(impl.TurnMatrix(a))
		matrix(t, name+" twice", a)(impl.TurnMatrix(want))
	}
}

func TestRanksAndEchelonForms(t *testing.T) {
	for _, a := range slices.Concat(smallMatrices(), largeMatrices(), noSpaces) {
		name := fmt.Sprint("echelon form of ", a)
		sums := sumsOf(a)
		want := spaceOfRows(a.Cols, sums)
		is(t, name+" in the test", fmt.Sprint(true, sums), fmt.Sprint(isEchelon(want.Rows), sumsOf(want)))
		matrix(t, name, want)(impl.EchelonOf(a))
		matrix(t, "space: "+name, want)(impl.SpaceOf(a))
		matrix(t, "again: "+name, want)(impl.EchelonOf(want))
		value(t, "rank: "+name, dimensionOf(sums))(impl.RankOf(a))
		if len(a.Rows) > 0 {
			turned, _ := impl.TurnMatrix(a)
			value(t, "rank turned: "+name, dimensionOf(sums))(impl.RankOf(turned))
		}
	}
}

// identity has a 1 in the row i and the column i.
func identity(n int64) impl.Matrix {
	a := impl.Matrix{Cols: n}
	for i := int64(0); i < n; i++ {
		a.Rows = append(a.Rows, 1<<i)
	}
	return a
}

// hasInverse checks what InverseMatrix says of a matrix, and whether it has an inverse.
func hasInverse(t *testing.T, a impl.Matrix) bool {
	t.Helper()
	name := fmt.Sprint("inverse of ", a)
	n := int64(len(a.Rows))
	if a.Cols != n {
		refusedMatrix(t, name, impl.ErrRange)(impl.InverseMatrix(a))
		return false
	}
	if dimensionOf(sumsOf(a)) < n {
		refusedMatrix(t, name, impl.ErrState)(impl.InverseMatrix(a))
		return false
	}
	b, code := impl.InverseMatrix(a)
	is(t, name, fmt.Sprint(true, impl.OK), fmt.Sprint(impl.ValidMatrix(b), code))
	if code == impl.OK {
		is(t, name+" behind it", identity(n), productOf(a, b))
		is(t, name+" ahead of it", identity(n), productOf(b, a))
	}
	return true
}

func TestInverseMatrices(t *testing.T) {
	inverted := map[int]int{}
	for _, a := range smallMatrices() {
		if hasInverse(t, a) {
			inverted[len(a.Rows)]++
		}
	}
	is(t, "small matrices with inverses", "map[1:1 2:6 3:168]", fmt.Sprint(inverted))
	for _, a := range largeMatrices() {
		if hasInverse(t, a) {
			inverted[len(a.Rows)]++
		}
	}
	is(t, "one with 10 rows", true, inverted[10] > 0)
	is(t, "10 rows in reverse", true, hasInverse(t, impl.Matrix{Cols: 10, Rows: []int64{512, 256, 128, 64, 32, 16, 8, 4, 2, 1}}))
}

func TestSolveRows(t *testing.T) {
	for _, a := range append(smallMatrices(), largeMatrices()...) {
		for r := int64(0); r < 1<<a.Cols; r += 1 + r/9 {
			name := fmt.Sprint("rows of ", a, " with the sum ", r)
			want := int64(0)
			for want < 1<<len(a.Rows) && sumOf(a.Rows, want) != r {
				want++
			}
			if want == 1<<len(a.Rows) {
				refused(t, name, impl.ErrNotFound)(impl.SolveRows(a, r))
			} else {
				value(t, name, want)(impl.SolveRows(a, r))
			}
		}
		for _, r := range []int64{-1, 1 << a.Cols, 1<<32 + 1, 1 << 62, math.MaxInt64, math.MinInt64} {
			refused(t, fmt.Sprint("rows of ", a, " with no row ", r), impl.ErrRange)(impl.SolveRows(a, r))
		}
	}
	value(t, "the least number of several", 3)(impl.SolveRows(impl.Matrix{Cols: 2, Rows: []int64{1, 2, 3}}, 3))
}

func TestMatricesThatAreNotValid(t *testing.T) {
	good := impl.Matrix{Cols: 3, Rows: []int64{1, 2}}
	for _, a := range noMatrices {
		name := fmt.Sprint("no matrix ", a)
		// The other argument is wrong as well, or does not fit: this one comes first.
		for _, b := range []impl.Matrix{a, good, {Cols: 10}, {}} {
			refusedMatrix(t, name, impl.ErrInvalid)(impl.AddMatrices(a, b))
			refusedMatrix(t, name, impl.ErrInvalid)(impl.AddMatrices(b, a))
			refusedMatrix(t, name, impl.ErrInvalid)(impl.MulMatrices(a, b))
			refusedMatrix(t, name, impl.ErrInvalid)(impl.MulMatrices(b, a))
		}
		refusedMatrix(t, name, impl.ErrInvalid)(impl.TurnMatrix(a))
		refused(t, name, impl.ErrInvalid)(impl.RankOf(a))
		refusedMatrix(t, name, impl.ErrInvalid)(impl.EchelonOf(a))
		refusedMatrix(t, name, impl.ErrInvalid)(impl.InverseMatrix(a))
		for _, r := range []int64{0, 1, -1, math.MaxInt64} {
			refused(t, name, impl.ErrInvalid)(impl.SolveRows(a, r))
		}
	}
}
