package tests

import (
	"fmt"
	"math"
	"testing"

	"loop.example/g01144/impl"
)

// What the tests of chapter 1 hold the program against: slow and direct calculations of their own.

// irreducibles are all irreducible polynomials with a degree of 1 to 5, by their degrees.
var irreducibles = [][]int64{
	1: {2, 3},
	2: {7},
	3: {11, 13},
	4: {19, 25, 31},
	5: {37, 41, 47, 55, 59, 61},
}

// noFields are invalid, each for a reason of its own.
var noFields = []impl.Field{
	{},
	{Degree: 0, Poly: 1},
	{Degree: 0, Poly: 2},
	{Degree: 1, Poly: 1},
	{Degree: 1, Poly: 0},
	{Degree: 1, Poly: 7},
	{Degree: 2, Poly: 3},
	{Degree: 2, Poly: 5},
	{Degree: 3, Poly: 9},
	{Degree: 3, Poly: -11},
	{Degree: 4, Poly: 11},
	{Degree: 4, Poly: 21}, // The square of an irreducible polynomial without roots.
	{Degree: 5, Poly: 35}, // A product of irreducible polynomials without roots.
	{Degree: 6, Poly: 67}, // Irreducible, but with a degree that is too great.
	{Degree: -3, Poly: 11},
	{Degree: math.MaxInt64, Poly: 11},
	{Degree: math.MinInt64, Poly: math.MinInt64},
	{Degree: 63, Poly: math.MinInt64},
	{Degree: 62, Poly: math.MaxInt64},
}

// noElements are the numbers that are no elements of a field.
func noElements(f impl.Field) []int64 {
	return []int64{-1, 1 << f.Degree, 1<<f.Degree + 1, 64, 256, 1 << 32, math.MaxInt64, math.MinInt64}
}

func allFields() []impl.Field {
	var list []impl.Field
	for degree, polys := range irreducibles {
		for _, poly := range polys {
			list = append(list, impl.Field{Degree: int64(degree), Poly: poly})
		}
	}
	return list
}

func sizeOf(f impl.Field) int64 {
	return 1 << f.Degree
}

// times multiplies by x again and again, taking Poly away as soon as the degree is reached.
func times(f impl.Field, a, b int64) int64 {
	product := int64(0)
	for b > 0 {
		if b%2 == 1 {
			product ^= a
		}
		b /= 2
		a *= 2
		if a >= sizeOf(f) {
			a ^= f.Poly
		}
	}
	return product
}

// power multiplies n factors a.
func power(f impl.Field, a, n int64) int64 {
	product := int64(1)
	for ; n > 0; n-- {
		product = times(f, product, a)
	}
	return product
}

// squared squares k times.
func squared(f impl.Field, a, k int64) int64 {
	for ; k > 0; k-- {
		a = times(f, a, a)
	}
	return a
}

// trace is the sum of the squares, one after the other.
func trace(f impl.Field, a int64) int64 {
	sum := int64(0)
	for k := int64(0); k < f.Degree; k++ {
		sum ^= squared(f, a, k)
	}
	return sum
}

// sumOf is the sum of those elements of a list whose indices are bits of a number.
func sumOf(list []int64, number int64) int64 {
	sum := int64(0)
	for i, a := range list {
		if number>>i&1 == 1 {
			sum ^= a
		}
	}
	return sum
}

// waysTo counts in how many ways an element is a sum of elements of a list.
func waysTo(list []int64, a int64) int64 {
	ways := int64(0)
	for number := int64(0); number < 1<<len(list); number++ {
		if sumOf(list, number) == a {
			ways++
		}
	}
	return ways
}

// isBasis asks for just one way to each element, as the document does.
func isBasis(f impl.Field, list []int64) bool {
	if int64(len(list)) != f.Degree {
		return false
	}
	for a := int64(0); a < sizeOf(f); a++ {
		if waysTo(list, a) != 1 {
			return false
		}
	}
	return true
}

// listsOf calls try with every list of so many elements of a field.
func listsOf(f impl.Field, length int64, try func(list []int64)) {
	list := make([]int64, length)
	for number := int64(0); number < 1<<(f.Degree*length); number++ {
		for i := range list {
			list[i] = number >> (f.Degree * int64(i)) % sizeOf(f)
		}
		try(list)
	}
}

// someBases are bases of a field, which are no bases of others with another degree.
func someBases(f impl.Field) [][]int64 {
	bases := map[int64][][]int64{
		1: {{1}},
		2: {{1, 2}, {2, 1}, {3, 1}, {2, 3}},
		3: {{1, 2, 4}, {4, 2, 1}, {3, 5, 7}, {7, 1, 2}},
		4: {{1, 2, 4, 8}, {8, 1, 4, 2}, {15, 7, 3, 1}, {9, 2, 6, 12}},
		5: {{1, 2, 4, 8, 16}, {16, 8, 4, 2, 1}, {31, 15, 7, 3, 1}, {3, 6, 12, 24, 16}},
	}
	return bases[f.Degree]
}

// noBases are lists of elements that are no bases, each for a reason of its own.
func noBases(f impl.Field) [][]int64 {
	lists := map[int64][][]int64{
		1: {{}, {0}, {1, 1}, {1, 0}, {0, 1}},
		2: {{}, {1}, {1, 1}, {2, 0}, {1, 2, 3}, {1, 2, 0}},
		3: {{}, {1, 2}, {1, 2, 3}, {4, 4, 1}, {0, 1, 2}, {1, 2, 4, 7}, {1, 2, 4, 0}},
		4: {{}, {1, 2, 4}, {1, 2, 4, 7}, {3, 5, 6, 8}, {1, 2, 4, 8, 0}},
		5: {{}, {1, 2, 4, 8}, {1, 2, 4, 8, 15}, {1, 2, 4, 8, 0}, {1, 2, 4, 8, 16, 31}},
	}
	return lists[f.Degree]
}

// is asks for the same printed results.
func is(t *testing.T, name string, want, got any) {
	t.Helper()
	if fmt.Sprint(want) != fmt.Sprint(got) {
		t.Errorf("%s: got %v, want %v", name, got, want)
	}
}

// value asks for a number and OK.
func value(t *testing.T, name string, want int64) func(got, code int64) {
	return func(got, code int64) {
		t.Helper()
		if got != want || code != impl.OK {
			t.Errorf("%s: got %d with the code %d, want %d with 0", name, got, code, want)
		}
	}
}

// refused asks for a code and the number 0.
func refused(t *testing.T, name string, want int64) func(got, code int64) {
	return func(got, code int64) {
		t.Helper()
		if got != 0 || code != want {
			t.Errorf("%s: got %d with the code %d, want 0 with %d", name, got, code, want)
		}
	}
}

// listed asks for a list and OK.
func listed(t *testing.T, name string, want []int64) func(got []int64, code int64) {
	return func(got []int64, code int64) {
		t.Helper()
		if fmt.Sprint(got) != fmt.Sprint(want) || code != impl.OK {
			t.Errorf("%s: got %v with the code %d, want %v with 0", name, got, code, want)
		}
	}
}

// refusedList asks for a code and no list.
func refusedList(t *testing.T, name string, want int64) func(got []int64, code int64) {
	return func(got []int64, code int64) {
		t.Helper()
		if len(got) != 0 || code != want {
			t.Errorf("%s: got %v with the code %d, want no list with %d", name, got, code, want)
		}
	}
}

// told asks for a boolean result and a code.
func told(t *testing.T, name string, want bool, wantCode int64) func(got bool, code int64) {
	return func(got bool, code int64) {
		t.Helper()
		if got != want || code != wantCode {
			t.Errorf("%s: got %v with the code %d, want %v with %d", name, got, code, want, wantCode)
		}
	}
}
