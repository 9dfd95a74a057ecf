package tests

import (
	"fmt"
	"math"
	"slices"
	"testing"

	"loop.example/g01144/impl"
)

// What the tests of chapter 3 hold the program against: values and coefficients, calculated as the document says, and lists of all linear polynomials with a few coefficients.

// noLinears are lists that are no linear polynomials of a field, each for a reason of its own.
func noLinears(f impl.Field) [][]int64 {
	lists := [][]int64{
		{0}, {0, 0}, {1, 0}, {1, 1, 0}, {0, 0, 1, 0},
		make([]int64, 12), make([]int64, 13),
		{1, 1, 1, 1, 1, 1, 1, 1, 1, 1, 1, 0},
		{1, 1, 1, 1, 1, 1, 1, 1, 1, 1, 1, 1, 1},
		{0, 0, 0, 0, 0, 0, 0, 0, 0, 0, 0, 0, 1},
		{math.MinInt64, 0},
	}
	for _, a := range noElements(f) {
		lists = append(lists, []int64{a}, []int64{a, 1}, []int64{1, a, 1}, []int64{1, 1, a}, []int64{1, 1, 1, 1, 1, 1, 1, 1, 1, 1, 1, a})
	}
	return lists
}

// cut leaves out the zeros at the end.
func cut(list []int64) []int64 {
	for len(list) > 0 && list[len(list)-1] == 0 {
		list = list[:len(list)-1]
	}
	return list
}

// linearsOf are all linear polynomials with at most so many coefficients.
func linearsOf(f impl.Field, terms int64) [][]int64 {
	list := [][]int64{{}}
	listsOf(f, terms, func(p []int64) {
		if p = cut(slices.Clone(p)); len(p) > 0 {
			list = append(list, p)
		}
	})
	return list
}

// mixedLinear looks as if it had been drawn by lot.
func mixedLinear(f impl.Field, terms, seed int64) []int64 {
	var p []int64
	for i := int64(0); i < terms; i++ {
		p = append(p, mixedMatrix(f.Degree, 1, seed*131+i*17+terms, 8).Rows[0])
	}
	if terms > 0 && p[terms-1] == 0 {
		p[terms-1] = 1
	}
	return p
}

// someLinears are linear polynomials of all lengths, among them some with few coefficients other than 0.
func someLinears(f impl.Field) [][]int64 {
	last := sizeOf(f) - 1
	list := [][]int64{
		{}, {1}, {last}, {0, 1}, {1, 1}, {0, 0, last}, {1, 0, 0, 0, 0, 1},
		{1, 1, 1, 1, 1, 1, 1, 1, 1, 1, 1, 1},
		{last, last, last, last, last, last, last, last, last, last, last, last},
		{0, 0, 0, 0, 0, 0, 0, 0, 0, 0, 0, last},
		{last, 0, 0, 0, 0, 0, 0, 0, 0, 0, 0, 1},
	}
	for terms := int64(1); terms <= 12; terms++ {
		list = append(list, mixedLinear(f, terms, terms))
	}
	return list
}

// linearsToTry are all linear polynomials with few coefficients, if there are not too many, and some others.
func linearsToTry(f impl.Field) [][]int64 {
	terms := map[int64]int64{1: 4, 2: 3, 3: 2, 4: 1, 5: 1}
	return append(linearsOf(f, terms[f.Degree]), someLinears(f)...)
}

// valueOfLinear adds coefficients times squared elements.
func valueOfLinear(f impl.Field, p []int64, x int64) int64 {
	sum := int64(0)
	for i, a := range p {
		sum ^= times(f, a, squared(f, x, int64(i)))
	}
	return sum
}

// valuesOfLinear are the values for all elements, in ascending order of these.
func valuesOfLinear(f impl.Field, p []int64) []int64 {
	var list []int64
	for x := int64(0); x < sizeOf(f); x++ {
		list = append(list, valueOfLinear(f, p, x))
	}
	return list
}

// sumOfLinears adds coefficients.
func sumOfLinears(p, q []int64) []int64 {
	sum := make([]int64, max(len(p), len(q)))
	for i := range sum {
		if i < len(p) {
			sum[i] ^= p[i]
		}
		if i < len(q) {
			sum[i] ^= q[i]
		}
	}
	return cut(sum)
}

// composition has, for each k, the sum over all i and j with the sum k.
func composition(f impl.Field, p, q []int64) []int64 {
	result := make([]int64, len(p)+len(q))
	for k := range result {
		for i, a := range p {
			if j := k - i; 0 <= j && j < len(q) {
				result[k] ^= times(f, a, squared(f, q[j], int64(i)))
			}
		}
	}
	return cut(result)
}

// rootsOfLinear are the elements with the value 0.
func rootsOfLinear(f impl.Field, p []int64) []int64 {
	var list []int64
	for x, y := range valuesOfLinear(f, p) {
		if y == 0 {
			list = append(list, int64(x))
		}
	}
	return list
}

// isLinear asks what the document asks of a linear polynomial.
func isLinear(f impl.Field, p []int64) bool {
	for _, a := range p {
		if a < 0 || a >= sizeOf(f) {
			return false
		}
	}
	return len(p) <= 12 && (len(p) == 0 || p[len(p)-1] != 0)
}

// isMonic asks for the last coefficient 1.
func isMonic(p []int64) bool {
	return len(p) > 0 && p[len(p)-1] == 1
}

// multiplesOf are all linear polynomials with at most so many coefficients, other than the empty one, that p divides on the right; as printed.
func multiplesOf(f impl.Field, p []int64, terms int64) map[string][]int64 {
	multiples := map[string][]int64{}
	for _, a := range linearsOf(f, max(0, terms-int64(len(p))+1)) {
		if len(a) > 0 {
			product := composition(f, a, p)
			multiples[fmt.Sprint(product)] = product
		}
	}
	return multiples
}

// independent asks whether no sum of elements with different indices is 0.
func independent(list []int64) bool {
	return len(list) < 10 && waysTo(list, 0) == 1
}

// divided asks for a quotient, a rest and OK.
func divided(t *testing.T, name string, wantQuotient, wantRest []int64) func(quotient, rest []int64, code int64) {
	return func(quotient, rest []int64, code int64) {
		t.Helper()
		is(t, name, fmt.Sprint(wantQuotient, wantRest, impl.OK), fmt.Sprint(quotient, rest, code))
	}
}

// refusedPair asks for a code and no lists.
func refusedPair(t *testing.T, name string, want int64) func(quotient, rest []int64, code int64) {
	return func(quotient, rest []int64, code int64) {
		t.Helper()
		is(t, name, fmt.Sprint("[] [] ", want), fmt.Sprint(quotient, rest, code))
	}
}
