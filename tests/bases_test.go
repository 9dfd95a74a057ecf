package tests

import (
	"fmt"
	"math"
	"slices"
	"testing"

	"loop.example/g01144/impl"
)

// Promise 3: conjugates, minimal polynomials, traces, bases and subfields are what they should be.

// conjugatesOf squares until the element comes again.
func conjugatesOf(f impl.Field, a int64) []int64 {
	var list []int64
	for !slices.Contains(list, a) {
		list = append(list, a)
		a = times(f, a, a)
	}
	return list
}

// valueOfPoly puts an element into a polynomial whose coefficients are 0 and 1.
func valueOfPoly(f impl.Field, poly, a int64) int64 {
	sum := int64(0)
	for i := int64(0); poly>>i > 0; i++ {
		if poly>>i&1 == 1 {
			sum ^= power(f, a, i)
		}
	}
	return sum
}

func TestConjugates(t *testing.T) {
	for _, f := range allFields() {
		for a := int64(0); a < sizeOf(f); a++ {
			listed(t, fmt.Sprint(f, " conjugates of ", a), conjugatesOf(f, a))(impl.ConjugatesIn(f, a))
		}
	}
}

func TestTraces(t *testing.T) {
	for _, f := range allFields() {
		for a := int64(0); a < sizeOf(f); a++ {
			value(t, fmt.Sprint(f, " trace of ", a), trace(f, a))(impl.TraceIn(f, a))
			for b := int64(0); b < sizeOf(f); b++ {
				one, _ := impl.TraceIn(f, a)
				two, _ := impl.TraceIn(f, b)
				value(t, fmt.Sprint(f, " trace of the sum ", a, b), one^two)(impl.TraceIn(f, a^b))
			}
		}
	}
}

// TestMinimalPolys uses that the polynomial is the only one of the least degree with this root.
func TestMinimalPolys(t *testing.T) {
	for _, f := range allFields() {
		for a := int64(0); a < sizeOf(f); a++ {
			want := int64(2)
			for valueOfPoly(f, want, a) != 0 {
				want++
			}
			for _, b := range conjugatesOf(f, a) {
				value(t, fmt.Sprint(f, " minimal polynomial of ", b), want)(impl.MinimalPoly(f, b))
			}
			is(t, fmt.Sprint(f, " irreducible ", a), true, impl.IsIrreducible(want))
		}
		value(t, fmt.Sprint(f, " minimal polynomial of 0"), 2)(impl.MinimalPoly(f, 0))
		value(t, fmt.Sprint(f, " minimal polynomial of 1"), 3)(impl.MinimalPoly(f, 1))
		if f.Degree > 1 {
			value(t, fmt.Sprint(f, " minimal polynomial of x"), f.Poly)(impl.MinimalPoly(f, 2))
		}
	}
}

func TestSubfields(t *testing.T) {
	for _, f := range allFields() {
		for k := int64(1); k <= f.Degree; k++ {
			var want []int64
			for a := int64(0); a < sizeOf(f); a++ {
				if squared(f, a, k) == a {
					want = append(want, a)
				}
			}
			listed(t, fmt.Sprint(f, " subfield ", k), want)(impl.SubfieldIn(f, k))
		}
		for _, k := range []int64{0, -1, f.Degree + 1, math.MaxInt64, math.MinInt64} {
			refusedList(t, fmt.Sprint(f, " subfield ", k), impl.ErrRange)(impl.SubfieldIn(f, k))
		}
	}
	// 3 is no divisor of 4, 2 is one.
	f := impl.Field{Degree: 4, Poly: 19}
	listed(t, "subfield 3 of 16", []int64{0, 1})(impl.SubfieldIn(f, 3))
	listed(t, "subfield 2 of 16", []int64{0, 1, 6, 7})(impl.SubfieldIn(f, 2))
}

func TestAllListsOfSmallFields(t *testing.T) {
	for _, f := range allFields() {
		if f.Degree > 3 {
			continue
		}
		for length := int64(0); length <= f.Degree+1; length++ {
			listsOf(f, length, func(list []int64) {
				told(t, fmt.Sprint(f, " IsBasis ", list), isBasis(f, list), impl.OK)(impl.IsBasis(f, list))
			})
		}
	}
}

func TestBases(t *testing.T) {
	for _, f := range allFields() {
		for _, basis := range someBases(f) {
			told(t, fmt.Sprint(f, " IsBasis ", basis), true, impl.OK)(impl.IsBasis(f, basis))
			for a := int64(0); a < sizeOf(f); a++ {
				number, code := impl.CoordinatesIn(f, basis, a)
				name := fmt.Sprint(f, " coordinates ", basis, a)
				is(t, name, fmt.Sprint(a, 0), fmt.Sprint(sumOf(basis, number), code))
				is(t, name+" are few bits", true, 0 <= number && number < sizeOf(f))
			}
		}
	}
}

func TestDualBases(t *testing.T) {
	for _, f := range allFields() {
		for _, basis := range someBases(f) {
			name := fmt.Sprint(f, " dual of ", basis)
			dual, code := impl.DualBasis(f, basis)
			if code != impl.OK || len(dual) != len(basis) {
				t.Errorf("%s: got %v with the code %d", name, dual, code)
				continue
			}
			for i, d := range dual {
				for k, b := range basis {
					is(t, fmt.Sprint(name, " at ", i, k), i == k, trace(f, times(f, d, b)) == 1)
				}
			}
			listed(t, "dual of the "+name, basis)(impl.DualBasis(f, dual))
		}
	}
}

func TestListsThatAreNoBases(t *testing.T) {
	for _, f := range allFields() {
		for _, list := range noBases(f) {
			name := fmt.Sprint(f, " no basis ", list)
			told(t, name, false, impl.OK)(impl.IsBasis(f, list))
			refused(t, name, impl.ErrState)(impl.CoordinatesIn(f, list, 0))
			refused(t, name, impl.ErrState)(impl.CoordinatesIn(f, list, 1))
			refusedList(t, name, impl.ErrState)(impl.DualBasis(f, list))
			for _, a := range noElements(f) {
				refused(t, name, impl.ErrRange)(impl.CoordinatesIn(f, list, a))
			}
		}
	}
}

func TestFirstNormal(t *testing.T) {
	for _, f := range allFields() {
		want := int64(0)
		for !isBasis(f, conjugatesOf(f, want)) {
			want++
		}
		value(t, fmt.Sprint(f, " FirstNormal"), want)(impl.FirstNormal(f))
	}
}

func TestSplits(t *testing.T) {
	for _, f := range allFields() {
		for a := int64(0); a < sizeOf(f); a++ {
			name := fmt.Sprint(f, " split ", a)
			want := int64(0)
			for want < sizeOf(f) && want^times(f, want, want) != a {
				want++
			}
			is(t, name+" by the trace", trace(f, a) == 1, want == sizeOf(f))
			if want == sizeOf(f) {
				refused(t, name, impl.ErrNotFound)(impl.SplitIn(f, a))
			} else {
				value(t, name, want)(impl.SplitIn(f, a))
			}
		}
	}
}

func TestBasesOfDegree1(t *testing.T) {
	for _, poly := range []int64{2, 3} {
		f := impl.Field{Degree: 1, Poly: poly}
		listed(t, "conjugates of 0", []int64{0})(impl.ConjugatesIn(f, 0))
		listed(t, "conjugates of 1", []int64{1})(impl.ConjugatesIn(f, 1))
		value(t, "trace of 0", 0)(impl.TraceIn(f, 0))
		value(t, "trace of 1", 1)(impl.TraceIn(f, 1))
		value(t, "minimal polynomial of 0", 2)(impl.MinimalPoly(f, 0))
		value(t, "minimal polynomial of 1", 3)(impl.MinimalPoly(f, 1))
		listed(t, "subfield", []int64{0, 1})(impl.SubfieldIn(f, 1))
		refusedList(t, "subfield 2", impl.ErrRange)(impl.SubfieldIn(f, 2))
		told(t, "basis", true, impl.OK)(impl.IsBasis(f, []int64{1}))
		value(t, "coordinates of 0", 0)(impl.CoordinatesIn(f, []int64{1}, 0))
		value(t, "coordinates of 1", 1)(impl.CoordinatesIn(f, []int64{1}, 1))
		listed(t, "dual basis", []int64{1})(impl.DualBasis(f, []int64{1}))
		value(t, "FirstNormal", 1)(impl.FirstNormal(f))
		value(t, "split 0", 0)(impl.SplitIn(f, 0))
		refused(t, "split 1", impl.ErrNotFound)(impl.SplitIn(f, 1))
	}
}

func TestNoFieldsForBases(t *testing.T) {
	for _, f := range noFields {
		// Everything else is wrong as well: the field comes first.
		for _, a := range []int64{0, 1, -1, 99} {
			name := fmt.Sprint("no field ", f, a)
			refused(t, name, impl.ErrInvalid)(impl.TraceIn(f, a))
			refused(t, name, impl.ErrInvalid)(impl.MinimalPoly(f, a))
			refusedList(t, name, impl.ErrInvalid)(impl.ConjugatesIn(f, a))
			refusedList(t, name, impl.ErrInvalid)(impl.SubfieldIn(f, a))
			told(t, name, false, impl.ErrInvalid)(impl.IsBasis(f, []int64{a}))
			refused(t, name, impl.ErrInvalid)(impl.CoordinatesIn(f, []int64{a, a}, a))
			refusedList(t, name, impl.ErrInvalid)(impl.DualBasis(f, []int64{a}))
			refused(t, name, impl.ErrInvalid)(impl.FirstNormal(f))
			refused(t, name, impl.ErrInvalid)(impl.SplitIn(f, a))
		}
	}
}

func TestBasesWithNumbersThatAreNoElements(t *testing.T) {
	for _, f := range allFields() {
		for _, a := range noElements(f) {
			name := fmt.Sprint(f, " no element ", a)
			refused(t, name, impl.ErrRange)(impl.TraceIn(f, a))
			refused(t, name, impl.ErrRange)(impl.MinimalPoly(f, a))
			refusedList(t, name, impl.ErrRange)(impl.ConjugatesIn(f, a))
			refused(t, name, impl.ErrRange)(impl.SplitIn(f, a))
			refused(t, name, impl.ErrRange)(impl.CoordinatesIn(f, someBases(f)[0], a))
			// The number is behind a basis, in the place of its last element, or behind a list that is too long anyway.
			basis := someBases(f)[0]
			replaced := append(slices.Clone(basis[1:]), a)
			for _, list := range [][]int64{append(slices.Clone(basis), a), replaced, {0, 0, 0, 0, 0, 0, 0, a}} {
				told(t, name, false, impl.ErrRange)(impl.IsBasis(f, list))
				refused(t, name, impl.ErrRange)(impl.CoordinatesIn(f, list, 0))
				refusedList(t, name, impl.ErrRange)(impl.DualBasis(f, list))
			}
		}
	}
}
