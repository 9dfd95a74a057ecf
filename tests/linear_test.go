package tests

import (
	"fmt"
	"math"
	"slices"
	"testing"

	"loop.example/g01144/impl"
)

// Promise 6: linear polynomials are maps, divided on both sides, with greatest divisors and annihilators.

func TestExampleOfChapter3(t *testing.T) {
	f, _ := impl.FieldOf(3)
	value(t, "value of 1, 1 for 2", 6)(impl.ValueOf(f, []int64{1, 1}, 2))
	listed(t, "roots of 1, 1", []int64{0, 1})(impl.RootsOf(f, []int64{1, 1}))
	listed(t, "annihilator of 1", []int64{1, 1})(impl.AnnihilatorOf(f, []int64{1}))
	listed(t, "1, 1 of 0, 2", []int64{0, 2, 4})(impl.ComposeLinear(f, []int64{1, 1}, []int64{0, 2}))
	listed(t, "interpolated", []int64{1, 1})(impl.InterpolateLinear(f, []int64{1, 2}, []int64{0, 6}))
	value(t, "rank of 1, 1", 2)(impl.RankOfLinear(f, []int64{1, 1}))
	is(t, "limit", 12, impl.MaxTerms)
}

func TestValidLinear(t *testing.T) {
	for _, f := range allFields() {
		for _, p := range linearsToTry(f) {
			is(t, fmt.Sprint(f, " ValidLinear ", p), true, impl.ValidLinear(f, p))
		}
		for _, p := range noLinears(f) {
			is(t, fmt.Sprint(f, " ValidLinear ", p), false, impl.ValidLinear(f, p))
		}
	}
	for _, f := range noFields {
		for _, p := range [][]int64{{}, {1}, {1, 1}, {0}, {-1}} {
			is(t, fmt.Sprint("no field ", f, " ValidLinear ", p), false, impl.ValidLinear(f, p))
		}
	}
}

func TestValuesOfLinears(t *testing.T) {
	for _, f := range allFields() {
		for _, p := range someLinears(f) {
			for x, y := range valuesOfLinear(f, p) {
				value(t, fmt.Sprint(f, p, " for ", x), y)(impl.ValueOf(f, p, int64(x)))
			}
		}
	}
}

func TestSumsOfLinears(t *testing.T) {
	for _, f := range allFields() {
		for _, p := range linearsToTry(f) {
			for _, q := range someLinears(f) {
				listed(t, fmt.Sprint(f, " sum of ", p, q), sumOfLinears(p, q))(impl.SumLinear(f, p, q))
			}
			listed(t, fmt.Sprint(f, " twice ", p), nil)(impl.SumLinear(f, p, p))
		}
	}
	f := impl.Field{Degree: 2, Poly: 7}
	listed(t, "zeros at the end", []int64{2})(impl.SumLinear(f, []int64{1, 2, 0, 3}, []int64{3, 2, 0, 3}))
}

func TestCompositions(t *testing.T) {
	for _, f := range allFields() {
		for _, p := range linearsToTry(f) {
			for _, q := range someLinears(f) {
				name := fmt.Sprint(f, " composed ", p, q)
				want := composition(f, p, q)
				if len(want) > 12 {
					refusedList(t, name, impl.ErrLimit)(impl.ComposeLinear(f, p, q))
					continue
				}
				listed(t, name, want)(impl.ComposeLinear(f, p, q))
				for x := int64(0); x < sizeOf(f); x++ {
					is(t, fmt.Sprint(name, " for ", x), valueOfLinear(f, p, valueOfLinear(f, q, x)), valueOfLinear(f, want, x))
				}
			}
		}
	}
}

func TestCompositionsAtTheLimit(t *testing.T) {
	for _, f := range allFields() {
		six, seven, twelve := mixedLinear(f, 6, 3), mixedLinear(f, 7, 5), mixedLinear(f, 12, 7)
		listed(t, "6 and 7", composition(f, six, seven))(impl.ComposeLinear(f, six, seven))
		listed(t, "7 and 6", composition(f, seven, six))(impl.ComposeLinear(f, seven, six))
		listed(t, "12 and 1", twelve)(impl.ComposeLinear(f, twelve, []int64{1}))
		listed(t, "1 and 12", twelve)(impl.ComposeLinear(f, []int64{1}, twelve))
		listed(t, "12 and none", nil)(impl.ComposeLinear(f, twelve, nil))
		listed(t, "none and 12", nil)(impl.ComposeLinear(f, nil, twelve))
		refusedList(t, "7 and 7", impl.ErrLimit)(impl.ComposeLinear(f, seven, seven))
		refusedList(t, "12 and 2", impl.ErrLimit)(impl.ComposeLinear(f, twelve, []int64{0, 1}))
		refusedList(t, "2 and 12", impl.ErrLimit)(impl.ComposeLinear(f, []int64{0, 1}, twelve))
		refusedList(t, "12 and 12", impl.ErrLimit)(impl.ComposeLinear(f, twelve, twelve))
	}
}

// checkDivisions uses that there is just one quotient with a rest of a lesser degree.
func checkDivisions(t *testing.T, f impl.Field, p, q []int64) {
	t.Helper()
	name := fmt.Sprint(f, p, " divided by ", q)
	if len(q) == 0 {
		refusedPair(t, name+" on the right", impl.ErrState)(impl.DivideRight(f, p, q))
		refusedPair(t, name+" on the left", impl.ErrState)(impl.DivideLeft(f, p, q))
		return
	}
	a, r, code := impl.DivideRight(f, p, q)
	is(t, name+" on the right", fmt.Sprint(p, 0), fmt.Sprint(sumOfLinears(composition(f, a, q), r), code))
	is(t, name+" on the right: rest", true, isLinear(f, a) && isLinear(f, r) && len(r) < len(q))
	b, s, code := impl.DivideLeft(f, p, q)
	is(t, name+" on the left", fmt.Sprint(p, 0), fmt.Sprint(sumOfLinears(composition(f, q, b), s), code))
	is(t, name+" on the left: rest", true, isLinear(f, b) && isLinear(f, s) && len(s) < len(q))
}

func TestDivisions(t *testing.T) {
	for _, f := range allFields() {
		for _, p := range linearsToTry(f) {
			for _, q := range someLinears(f) {
				checkDivisions(t, f, p, q)
				checkDivisions(t, f, q, p)
			}
		}
	}
}

func TestDivisionsByWhatHasBeenComposed(t *testing.T) {
	for _, f := range allFields() {
		for terms := int64(1); terms <= 12; terms++ {
			a, b := mixedLinear(f, terms, 3), mixedLinear(f, 13-terms, 4)
			product := composition(f, a, b)
			divided(t, fmt.Sprint(f, " right ", a, b), a, nil)(impl.DivideRight(f, product, b))
			divided(t, fmt.Sprint(f, " left ", a, b), b, nil)(impl.DivideLeft(f, product, a))
		}
	}
}

// TestSidesDiffer has a division whose results on both sides are known and not the same.
func TestSidesDiffer(t *testing.T) {
	f := impl.Field{Degree: 2, Poly: 7}
	// Inside, the 2 of the divisor is squared; outside, what is squared is the quotient.
	divided(t, "right", []int64{0, 3}, nil)(impl.DivideRight(f, []int64{0, 0, 2}, []int64{0, 2}))
	divided(t, "left", []int64{0, 1}, nil)(impl.DivideLeft(f, []int64{0, 0, 2}, []int64{0, 2}))
	divided(t, "right by 2", []int64{0, 2}, nil)(impl.DivideRight(f, []int64{0, 1}, []int64{2}))
	divided(t, "left by 2", []int64{0, 3}, nil)(impl.DivideLeft(f, []int64{0, 1}, []int64{2}))
	divided(t, "right with a rest", []int64{1, 1}, []int64{3})(impl.DivideRight(f, []int64{1, 2, 1}, []int64{2, 1}))
	divided(t, "left with a rest", []int64{0, 1}, []int64{1})(impl.DivideLeft(f, []int64{1, 2, 1}, []int64{2, 1}))
}

func TestDivisorsOfTheDegree0(t *testing.T) {
	for _, f := range allFields() {
		for c := int64(1); c < sizeOf(f); c++ {
			for _, p := range someLinears(f) {
				_, r, code := impl.DivideRight(f, p, []int64{c})
				is(t, fmt.Sprint(f, p, " right by ", c), "[] 0", fmt.Sprint(r, code))
				_, r, code = impl.DivideLeft(f, p, []int64{c})
				is(t, fmt.Sprint(f, p, " left by ", c), "[] 0", fmt.Sprint(r, code))
			}
		}
	}
}

func TestDivisionsWithoutAQuotient(t *testing.T) {
	for _, f := range allFields() {
		for _, q := range someLinears(f)[1:] {
			divided(t, fmt.Sprint(f, " right ", q), nil, nil)(impl.DivideRight(f, nil, q))
			divided(t, fmt.Sprint(f, " left ", q), nil, nil)(impl.DivideLeft(f, []int64{}, q))
		}
		for terms := int64(0); terms < 12; terms++ {
			p, q := mixedLinear(f, terms, 8), mixedLinear(f, terms+1, 9)
			divided(t, fmt.Sprint(f, p, " right by a greater one ", q), nil, p)(impl.DivideRight(f, p, q))
			divided(t, fmt.Sprint(f, p, " left by a greater one ", q), nil, p)(impl.DivideLeft(f, p, q))
		}
		refusedPair(t, "both empty, right", impl.ErrState)(impl.DivideRight(f, nil, nil))
		refusedPair(t, "both empty, left", impl.ErrState)(impl.DivideLeft(f, nil, nil))
	}
}

// smallTerms are numbers of coefficients with which all linear polynomials of a field are looked at.
var smallTerms = map[impl.Field]int64{{Degree: 1, Poly: 2}: 4, {Degree: 1, Poly: 3}: 4, {Degree: 2, Poly: 7}: 3, {Degree: 3, Poly: 11}: 2, {Degree: 3, Poly: 13}: 2, {Degree: 4, Poly: 31}: 1}

// divisorsOf are all monic linear polynomials with so many coefficients that have p among their multiples.
func divisorsOf(f impl.Field, p []int64, terms int64, multiples map[string]map[string][]int64) [][]int64 {
	var list [][]int64
	for _, d := range linearsOf(f, terms) {
		if _, is := multiples[fmt.Sprint(d)][fmt.Sprint(p)]; isMonic(d) && (is || len(p) == 0) {
			list = append(list, d)
		}
	}
	return list
}

// longest has the only list that is the longest one.
func longest(lists [][]int64) []int64 {
	return slices.MaxFunc(lists, func(p, q []int64) int { return len(p) - len(q) })
}

func TestGreatestDivisorsOfSmallOnes(t *testing.T) {
	for f, terms := range smallTerms {
		all := linearsOf(f, terms)
		multiples := map[string]map[string][]int64{}
		for _, p := range all {
			if len(p) > 0 {
				multiples[fmt.Sprint(p)] = multiplesOf(f, p, terms)
			}
		}
		divisors := map[string][][]int64{}
		for _, p := range all {
			divisors[fmt.Sprint(p)] = divisorsOf(f, p, terms, multiples)
		}
		for _, p := range all {
			for _, q := range all {
				if len(p) == 0 && len(q) == 0 {
					continue
				}
				var common [][]int64
				for _, d := range divisors[fmt.Sprint(p)] {
					if slices.ContainsFunc(divisors[fmt.Sprint(q)], func(e []int64) bool { return slices.Equal(d, e) }) {
						common = append(common, d)
					}
				}
				listed(t, fmt.Sprint(f, " greatest divisor of ", p, q), longest(common))(impl.GreatestRight(f, p, q))
			}
		}
	}
}

func TestLeastMultiplesOfSmallOnes(t *testing.T) {
	for f, terms := range smallTerms {
		all := linearsOf(f, terms)
		multiples := map[string]map[string][]int64{}
		for _, p := range all[1:] {
			multiples[fmt.Sprint(p)] = multiplesOf(f, p, 2*terms-1)
		}
		for _, p := range all[1:] {
			for _, q := range all[1:] {
				var want []int64
				for text, multiple := range multiples[fmt.Sprint(p)] {
					_, is := multiples[fmt.Sprint(q)][text]
					if is && isMonic(multiple) && (want == nil || len(multiple) < len(want)) {
						want = multiple
					}
				}
				listed(t, fmt.Sprint(f, " least multiple of ", p, q), want)(impl.LeastLeft(f, p, q))
			}
		}
	}
}

// checkCommon asks what greatest divisors and least multiples have to do with each other.
func checkCommon(t *testing.T, f impl.Field, p, q []int64) {
	t.Helper()
	name := fmt.Sprint(f, " of ", p, q)
	greatest, code := impl.GreatestRight(f, p, q)
	is(t, "greatest divisor"+name, "0 true", fmt.Sprint(code, " ", isMonic(greatest) && isLinear(f, greatest)))
	for _, one := range [][]int64{p, q} {
		_, rest, code := impl.DivideRight(f, one, greatest)
		is(t, "greatest divisor divides"+name, "[] 0", fmt.Sprint(rest, code))
	}
	terms := len(p) + len(q) - len(greatest)
	if terms > 12 {
		refusedList(t, "least multiple"+name, impl.ErrLimit)(impl.LeastLeft(f, p, q))
		return
	}
	least, code := impl.LeastLeft(f, p, q)
	is(t, "least multiple"+name, fmt.Sprint(terms, 0, true), fmt.Sprint(len(least), code, isMonic(least) && isLinear(f, least)))
	for _, one := range [][]int64{p, q} {
		_, rest, code := impl.DivideRight(f, least, one)
		is(t, "divides the least multiple"+name, "[] 0", fmt.Sprint(rest, code))
	}
}

func TestCommonDivisorsAndMultiples(t *testing.T) {
	for _, f := range allFields() {
		for _, p := range someLinears(f)[1:] {
			for _, q := range someLinears(f)[1:] {
				checkCommon(t, f, p, q)
			}
		}
	}
}

func TestDivisorsThatArePutInAreFound(t *testing.T) {
	for _, f := range allFields() {
		for seed := int64(1); seed <= 6; seed++ {
			inside := mixedLinear(f, seed, seed)
			p, q := composition(f, mixedLinear(f, 4, seed+20), inside), composition(f, mixedLinear(f, 7-seed, seed+40), inside)
			greatest, code := impl.GreatestRight(f, p, q)
			name := fmt.Sprint(f, " greatest divisor of ", p, q)
			is(t, name, 0, code)
			_, rest, code := impl.DivideRight(f, greatest, inside)
			is(t, name+" has what was put in", "[] 0", fmt.Sprint(rest, code))
		}
	}
}

func TestDivisorsOfTheEmptyOne(t *testing.T) {
	for _, f := range allFields() {
		for _, p := range someLinears(f)[1:] {
			last, _ := impl.InverseIn(f, p[len(p)-1])
			monic := composition(f, []int64{last}, p)
			listed(t, fmt.Sprint(f, " empty and ", p), monic)(impl.GreatestRight(f, nil, p))
			listed(t, fmt.Sprint(f, p, " and empty"), monic)(impl.GreatestRight(f, p, nil))
			listed(t, fmt.Sprint(f, p, " twice"), monic)(impl.GreatestRight(f, p, p))
			listed(t, fmt.Sprint(f, " multiple of ", p, " twice"), monic)(impl.LeastLeft(f, p, p))
			refusedList(t, fmt.Sprint(f, " multiple of empty and ", p), impl.ErrState)(impl.LeastLeft(f, nil, p))
			refusedList(t, fmt.Sprint(f, " multiple of ", p, " and empty"), impl.ErrState)(impl.LeastLeft(f, p, nil))
		}
		refusedList(t, "both empty", impl.ErrState)(impl.GreatestRight(f, nil, []int64{}))
		refusedList(t, "multiple of both empty", impl.ErrState)(impl.LeastLeft(f, []int64{}, nil))
	}
}

// TestLeastMultiplesAtTheLimit uses that the linear polynomials of two elements are composed as polynomials are multiplied: these have no common divisors.
func TestLeastMultiplesAtTheLimit(t *testing.T) {
	f := impl.Field{Degree: 1, Poly: 2}
	five, six, other := []int64{1, 0, 1, 0, 0, 1}, []int64{1, 1, 0, 0, 0, 0, 1}, []int64{1, 0, 0, 1, 0, 0, 1}
	listed(t, "12 coefficients", composition(f, five, six))(impl.LeastLeft(f, five, six))
	listed(t, "no others", []int64{1})(impl.GreatestRight(f, six, other))
	refusedList(t, "13 coefficients", impl.ErrLimit)(impl.LeastLeft(f, six, other))
	twelve := composition(f, five, six)
	listed(t, "a divisor", twelve)(impl.LeastLeft(f, twelve, six))
	refusedList(t, "23 coefficients", impl.ErrLimit)(impl.LeastLeft(f, []int64{0, 0, 0, 0, 0, 0, 0, 0, 0, 0, 0, 1}, []int64{1, 0, 0, 0, 0, 0, 0, 0, 0, 0, 0, 1}))
}

func TestRoots(t *testing.T) {
	for _, f := range allFields() {
		for _, p := range linearsToTry(f) {
			name := fmt.Sprint(f, " roots of ", p)
			want := rootsOfLinear(f, p)
			listed(t, name, want)(impl.RootsOf(f, p))
			rank, _ := impl.RankOfLinear(f, p)
			is(t, name+" and the rank", 1<<(f.Degree-rank), len(want))
			is(t, name+" and the degree", true, len(p) == 0 || len(want) <= 1<<(len(p)-1))
		}
	}
}

// checkAnnihilator uses that what has the last coefficient 1, the least possible degree and these roots is the only one.
func checkAnnihilator(t *testing.T, f impl.Field, list []int64) {
	t.Helper()
	name := fmt.Sprint(f, " annihilator of ", list)
	sums := []int64{0}
	for _, a := range list {
		sums = joinedOf(sums, []int64{0, a})
	}
	p, code := impl.AnnihilatorOf(f, list)
	is(t, name, fmt.Sprint(dimensionOf(sums)+1, 0, true), fmt.Sprint(len(p), code, isMonic(p) && isLinear(f, p)))
	is(t, name+": roots", fmt.Sprint(sums), fmt.Sprint(rootsOfLinear(f, p)))
}

func TestAnnihilators(t *testing.T) {
	for _, f := range allFields() {
		for _, list := range slices.Concat(someBases(f), noBases(f), someLinears(f), [][]int64{{0}, {0, 0}, {1, 0, 1}, make([]int64, 40)}) {
			checkAnnihilator(t, f, list)
		}
		listed(t, "of nothing", []int64{1})(impl.AnnihilatorOf(f, nil))
		listed(t, "of 0", []int64{1})(impl.AnnihilatorOf(f, []int64{0}))
		if f.Degree <= 3 {
			for length := int64(1); length <= 3; length++ {
				listsOf(f, length, func(list []int64) { checkAnnihilator(t, f, list) })
			}
		}
	}
}

func TestLinearsOfDegree1(t *testing.T) {
	for _, poly := range []int64{2, 3} {
		f := impl.Field{Degree: 1, Poly: poly}
		is(t, "valid", true, impl.ValidLinear(f, []int64{1, 0, 1}))
		is(t, "no element", false, impl.ValidLinear(f, []int64{2}))
		value(t, "value", 1)(impl.ValueOf(f, []int64{0, 1, 0, 1, 1}, 1))
		listed(t, "all roots", []int64{0, 1})(impl.RootsOf(f, []int64{1, 1}))
		listed(t, "one root", []int64{0})(impl.RootsOf(f, []int64{1, 1, 1}))
		listed(t, "annihilator", []int64{1, 1})(impl.AnnihilatorOf(f, []int64{1, 0, 1}))
		divided(t, "right", []int64{1, 1}, nil)(impl.DivideRight(f, []int64{1, 0, 1}, []int64{1, 1}))
		divided(t, "left", []int64{0, 1}, []int64{1})(impl.DivideLeft(f, []int64{1, 1, 1}, []int64{1, 1}))
	}
}

// refuseAll asks all functions of this promise that take one or two linear polynomials, both times with the other one q.
func refuseAll(t *testing.T, name string, f impl.Field, p, q []int64, x int64) {
	t.Helper()
	refused(t, name+" ValueOf", impl.ErrInvalid)(impl.ValueOf(f, p, x))
	refusedList(t, name+" RootsOf", impl.ErrInvalid)(impl.RootsOf(f, p))
	for _, pair := range [][2][]int64{{p, q}, {q, p}, {p, p}} {
		refusedList(t, name+" SumLinear", impl.ErrInvalid)(impl.SumLinear(f, pair[0], pair[1]))
		refusedList(t, name+" ComposeLinear", impl.ErrInvalid)(impl.ComposeLinear(f, pair[0], pair[1]))
		refusedPair(t, name+" DivideRight", impl.ErrInvalid)(impl.DivideRight(f, pair[0], pair[1]))
		refusedPair(t, name+" DivideLeft", impl.ErrInvalid)(impl.DivideLeft(f, pair[0], pair[1]))
		refusedList(t, name+" GreatestRight", impl.ErrInvalid)(impl.GreatestRight(f, pair[0], pair[1]))
		refusedList(t, name+" LeastLeft", impl.ErrInvalid)(impl.LeastLeft(f, pair[0], pair[1]))
	}
}

func TestListsThatAreNoLinears(t *testing.T) {
	for _, f := range allFields() {
		for _, p := range noLinears(f) {
			// The others would be an error as well: an empty divisor, too many coefficients, no element.
			for _, q := range [][]int64{{}, {1}, mixedLinear(f, 12, 2)} {
				refuseAll(t, fmt.Sprint(f, p, q), f, p, q, 0)
				refuseAll(t, fmt.Sprint(f, p, q), f, p, q, -1)
			}
		}
	}
}

func TestNoFieldsForLinears(t *testing.T) {
	for _, f := range noFields {
		for _, p := range [][]int64{{}, {1}, {0, 1}, {0}, {-1}, {99, 1}} {
			for _, x := range []int64{0, 1, -1, math.MaxInt64} {
				refuseAll(t, fmt.Sprint("no field ", f, p), f, p, []int64{}, x)
				refusedList(t, fmt.Sprint("no field ", f, x), impl.ErrInvalid)(impl.AnnihilatorOf(f, []int64{x}))
			}
		}
		refusedList(t, fmt.Sprint("no field ", f), impl.ErrInvalid)(impl.AnnihilatorOf(f, nil))
	}
}

func TestLinearsWithNumbersThatAreNoElements(t *testing.T) {
	for _, f := range allFields() {
		for _, a := range noElements(f) {
			name := fmt.Sprint(f, " no element ", a)
			for _, p := range [][]int64{{}, {1}, mixedLinear(f, 12, 1)} {
				refused(t, name, impl.ErrRange)(impl.ValueOf(f, p, a))
			}
			for _, list := range [][]int64{{a}, {a, 1}, {1, 0, a}, {0, 0, 0, 0, 0, 0, 0, 0, 0, 0, 0, 0, 0, 0, a}} {
				refusedList(t, name, impl.ErrRange)(impl.AnnihilatorOf(f, list))
			}
		}
	}
}
