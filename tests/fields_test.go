package tests

import (
	"fmt"
	"math"
	"slices"
	"testing"

	"loop.example/g01144/impl"
)

// Promise 2: fields are what they are called, with powers, squares, orders and logarithms.

func TestExampleOfChapter1(t *testing.T) {
	f, code := impl.FieldOf(3)
	is(t, "FieldOf 3", "{3 11} 0", fmt.Sprint(f, code))
	value(t, "2 times 4", 3)(impl.MulIn(f, 2, 4))
	value(t, "inverse of 2", 5)(impl.InverseIn(f, 2))
	value(t, "order of 2", 7)(impl.OrderIn(f, 2))
	listed(t, "conjugates of 2", []int64{2, 4, 6})(impl.ConjugatesIn(f, 2))
	value(t, "trace of 2", 0)(impl.TraceIn(f, 2))
	value(t, "minimal polynomial of 2", 11)(impl.MinimalPoly(f, 2))
	value(t, "FirstNormal", 3)(impl.FirstNormal(f))
}

func TestCodeName(t *testing.T) {
	names := []string{"ok", "invalid", "range", "limit", "state", "syntax", "notfound", "budget", "proof"}
	for code, name := range names {
		is(t, fmt.Sprint("CodeName ", code), name, impl.CodeName(int64(code)))
	}
	codes := []int64{impl.OK, impl.ErrInvalid, impl.ErrRange, impl.ErrLimit, impl.ErrState, impl.ErrSyntax, impl.ErrNotFound, impl.ErrBudget, impl.ErrProof}
	is(t, "codes", []int64{0, 1, 2, 3, 4, 5, 6, 7, 8}, codes)
	for _, code := range []int64{-1, 9, 256, 1 << 32, math.MaxInt64, math.MinInt64} {
		is(t, fmt.Sprint("CodeName ", code), "", impl.CodeName(code))
	}
}

func TestIsIrreducible(t *testing.T) {
	all := slices.Concat(irreducibles...)
	for poly := int64(-100); poly < 300; poly++ {
		is(t, fmt.Sprint("IsIrreducible ", poly), slices.Contains(all, poly), impl.IsIrreducible(poly))
	}
	for _, poly := range []int64{math.MaxInt64, math.MinInt64, math.MinInt64 + 11, 1<<32 + 11, 1 << 62} {
		is(t, fmt.Sprint("IsIrreducible ", poly), false, impl.IsIrreducible(poly))
	}
}

func TestValidField(t *testing.T) {
	for degree := int64(-2); degree < 9; degree++ {
		for poly := int64(-70); poly < 140; poly++ {
			f := impl.Field{Degree: degree, Poly: poly}
			want := slices.Contains(allFields(), f)
			is(t, fmt.Sprint("ValidField ", f), want, impl.ValidField(f))
		}
	}
	for _, f := range noFields {
		is(t, fmt.Sprint("ValidField ", f), false, impl.ValidField(f))
	}
}

func TestFieldsOfDegrees(t *testing.T) {
	for degree := int64(1); degree <= impl.MaxDegree; degree++ {
		var want []impl.Field
		for _, poly := range irreducibles[degree] {
			want = append(want, impl.Field{Degree: degree, Poly: poly})
		}
		first, code := impl.FieldOf(degree)
		is(t, fmt.Sprint("FieldOf ", degree), fmt.Sprint(want[0], 0), fmt.Sprint(first, code))
		all, code := impl.FieldsOf(degree)
		is(t, fmt.Sprint("FieldsOf ", degree), fmt.Sprint(want, 0), fmt.Sprint(all, code))
	}
	for _, degree := range []int64{0, 6, -1, 63, 64, math.MaxInt64, math.MinInt64} {
		first, code := impl.FieldOf(degree)
		is(t, fmt.Sprint("FieldOf ", degree), "{0 0} 2", fmt.Sprint(first, code))
		all, code := impl.FieldsOf(degree)
		is(t, fmt.Sprint("FieldsOf ", degree), "[] 2", fmt.Sprint(all, code))
	}
}

func TestFieldsOfDegree1(t *testing.T) {
	all, _ := impl.FieldsOf(1)
	is(t, "fields of degree 1", "[{1 2} {1 3}]", fmt.Sprint(all))
	for _, f := range all {
		value(t, "1 times 1", 1)(impl.MulIn(f, 1, 1))
		value(t, "1 times 0", 0)(impl.MulIn(f, 1, 0))
		refused(t, "2 times 1", impl.ErrRange)(impl.MulIn(f, 2, 1))
		value(t, "power 1000 of 1", 1)(impl.PowerIn(f, 1, 1000))
		value(t, "power 0 of 0", 1)(impl.PowerIn(f, 0, 0))
		value(t, "inverse of 1", 1)(impl.InverseIn(f, 1))
		value(t, "squares of 1", 1)(impl.SquareTimes(f, 1, 1000))
		value(t, "roots of 1", 1)(impl.RootTimes(f, 1, 999))
		value(t, "roots of 0", 0)(impl.RootTimes(f, 0, 3))
		value(t, "order of 1", 1)(impl.OrderIn(f, 1))
		value(t, "FirstPrimitive", 1)(impl.FirstPrimitive(f))
		value(t, "logarithm of 1", 0)(impl.LogIn(f, 1, 1))
		refused(t, "logarithm of 0", impl.ErrNotFound)(impl.LogIn(f, 1, 0))
	}
}

func TestProducts(t *testing.T) {
	for _, f := range allFields() {
		for a := int64(0); a < sizeOf(f); a++ {
			for b := int64(0); b < sizeOf(f); b++ {
				value(t, fmt.Sprint(f, " product ", a, b), times(f, a, b))(impl.MulIn(f, a, b))
			}
		}
	}
}

func TestPowers(t *testing.T) {
	for _, f := range allFields() {
		for a := int64(0); a < sizeOf(f); a++ {
			for _, n := range []int64{0, 1, 2, 3, 7, 30, 31, 32, 999, 1000} {
				value(t, fmt.Sprint(f, " power ", a, n), power(f, a, n))(impl.PowerIn(f, a, n))
			}
		}
	}
}

func TestInverses(t *testing.T) {
	for _, f := range allFields() {
		refused(t, fmt.Sprint(f, " inverse of 0"), impl.ErrState)(impl.InverseIn(f, 0))
		for a := int64(1); a < sizeOf(f); a++ {
			b, code := impl.InverseIn(f, a)
			is(t, fmt.Sprint(f, " inverse of ", a), "1 0", fmt.Sprint(times(f, a, b), code))
		}
	}
}

func TestSquaresAndRoots(t *testing.T) {
	for _, f := range allFields() {
		for a := int64(0); a < sizeOf(f); a++ {
			for _, k := range []int64{0, 1, 2, 3, 4, 5, 6, 7, 11, 60, 997, 998, 999, 1000} {
				value(t, fmt.Sprint(f, " squares ", a, k), squared(f, a, k))(impl.SquareTimes(f, a, k))
				root, code := impl.RootTimes(f, a, k)
				is(t, fmt.Sprint(f, " roots ", a, k), fmt.Sprint(a, 0), fmt.Sprint(squared(f, root, k), code))
			}
		}
	}
}

// orderOf is the least exponent from 1 on for which the power is 1.
func orderOf(f impl.Field, a int64) int64 {
	n := int64(1)
	for power(f, a, n) != 1 {
		n++
	}
	return n
}

func TestOrders(t *testing.T) {
	for _, f := range allFields() {
		refused(t, fmt.Sprint(f, " order of 0"), impl.ErrState)(impl.OrderIn(f, 0))
		for a := int64(1); a < sizeOf(f); a++ {
			value(t, fmt.Sprint(f, " order of ", a), orderOf(f, a))(impl.OrderIn(f, a))
		}
	}
}

func TestFirstPrimitive(t *testing.T) {
	for _, f := range allFields() {
		want := int64(1)
		for orderOf(f, want) != sizeOf(f)-1 {
			want++
		}
		value(t, fmt.Sprint(f, " FirstPrimitive"), want)(impl.FirstPrimitive(f))
	}
	// x is not primitive here: its order is 5.
	value(t, "FirstPrimitive with 31", 3)(impl.FirstPrimitive(impl.Field{Degree: 4, Poly: 31}))
}

func TestLogarithms(t *testing.T) {
	for _, f := range allFields() {
		for base := int64(1); base < sizeOf(f); base++ {
			for a := int64(0); a < sizeOf(f); a++ {
				name := fmt.Sprint(f, " logarithm ", base, a)
				want := int64(0)
				for want < sizeOf(f) && power(f, base, want) != a {
					want++
				}
				if want == sizeOf(f) {
					refused(t, name, impl.ErrNotFound)(impl.LogIn(f, base, a))
				} else {
					value(t, name, want)(impl.LogIn(f, base, a))
				}
			}
		}
		for a := int64(0); a < sizeOf(f); a++ {
			refused(t, fmt.Sprint(f, " logarithm with 0 of ", a), impl.ErrState)(impl.LogIn(f, 0, a))
		}
	}
}

func TestNoFieldsForElements(t *testing.T) {
	for _, f := range noFields {
		// Everything else is wrong as well: the field comes first.
		for _, a := range []int64{0, 1, -1, 99} {
			name := fmt.Sprint("no field ", f, a)
			refused(t, name, impl.ErrInvalid)(impl.MulIn(f, a, a))
			refused(t, name, impl.ErrInvalid)(impl.PowerIn(f, a, a))
			refused(t, name, impl.ErrInvalid)(impl.InverseIn(f, a))
			refused(t, name, impl.ErrInvalid)(impl.SquareTimes(f, a, a))
			refused(t, name, impl.ErrInvalid)(impl.RootTimes(f, a, a))
			refused(t, name, impl.ErrInvalid)(impl.OrderIn(f, a))
			refused(t, name, impl.ErrInvalid)(impl.FirstPrimitive(f))
			refused(t, name, impl.ErrInvalid)(impl.LogIn(f, a, a))
		}
	}
}

func TestNumbersThatAreNoElements(t *testing.T) {
	for _, f := range allFields() {
		for _, a := range noElements(f) {
			name := fmt.Sprint(f, " no element ", a)
			refused(t, name, impl.ErrRange)(impl.MulIn(f, a, 1))
			refused(t, name, impl.ErrRange)(impl.MulIn(f, 0, a))
			refused(t, name, impl.ErrRange)(impl.PowerIn(f, a, 0))
			refused(t, name, impl.ErrRange)(impl.InverseIn(f, a))
			refused(t, name, impl.ErrRange)(impl.SquareTimes(f, a, 0))
			refused(t, name, impl.ErrRange)(impl.RootTimes(f, a, 0))
			refused(t, name, impl.ErrRange)(impl.OrderIn(f, a))
			refused(t, name, impl.ErrRange)(impl.LogIn(f, a, 1))
			refused(t, name, impl.ErrRange)(impl.LogIn(f, 0, a))
		}
	}
}

func TestTimesOutOfRange(t *testing.T) {
	for _, f := range allFields() {
		for _, n := range []int64{-1, 1001, math.MaxInt64, math.MinInt64} {
			for a := int64(0); a < 2; a++ {
				name := fmt.Sprint(f, a, " times ", n)
				refused(t, name, impl.ErrRange)(impl.PowerIn(f, a, n))
				refused(t, name, impl.ErrRange)(impl.SquareTimes(f, a, n))
				refused(t, name, impl.ErrRange)(impl.RootTimes(f, a, n))
			}
		}
	}
}
