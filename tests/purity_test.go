package tests

import (
	"fmt"
	"math"
	"slices"
	"testing"

	"loop.example/g01144/impl"
)

// Promise 1: every function returns for all arguments, modifies no argument, and returns equal results for equal arguments.

// oddNumbers are numbers at and around the limits.
var oddNumbers = []int64{math.MinInt64, math.MinInt64 + 1, -1 << 32, -64, -1, 0, 1, 2, 3, 5, 6, 7, 31, 32, 63, 64, 65, 255, 256, 1000, 1001, 1 << 31, 1 << 32, 1 << 62, math.MaxInt64}

// oddFields are fields of any numbers, and the valid ones.
func oddFields() []impl.Field {
	list := append(allFields(), noFields...)
	for _, degree := range oddNumbers {
		for _, poly := range oddNumbers {
			list = append(list, impl.Field{Degree: degree, Poly: poly})
		}
	}
	return list
}

// answers has everything that chapter 1 answers for some arguments, as text.
func answers(f impl.Field, a, b int64, list []int64) string {
	text := fmt.Sprintln(impl.CodeName(a), impl.IsIrreducible(a), impl.ValidField(f))
	field, code := impl.FieldOf(a)
	text += fmt.Sprintln(field, code)
	fields, code := impl.FieldsOf(a)
	text += fmt.Sprintln(fields, code)
	text += fmt.Sprintln(impl.MulIn(f, a, b))
	text += fmt.Sprintln(impl.PowerIn(f, a, b))
	text += fmt.Sprintln(impl.InverseIn(f, a))
	text += fmt.Sprintln(impl.SquareTimes(f, a, b))
	text += fmt.Sprintln(impl.RootTimes(f, a, b))
	text += fmt.Sprintln(impl.OrderIn(f, a))
	text += fmt.Sprintln(impl.FirstPrimitive(f))
	text += fmt.Sprintln(impl.LogIn(f, a, b))
	text += fmt.Sprintln(impl.TraceIn(f, a))
	text += fmt.Sprintln(impl.MinimalPoly(f, a))
	text += fmt.Sprintln(impl.ConjugatesIn(f, a))
	text += fmt.Sprintln(impl.SubfieldIn(f, a))
	text += fmt.Sprintln(impl.IsBasis(f, list))
	text += fmt.Sprintln(impl.CoordinatesIn(f, list, a))
	text += fmt.Sprintln(impl.DualBasis(f, list))
	text += fmt.Sprintln(impl.FirstNormal(f))
	text += fmt.Sprintln(impl.SplitIn(f, a))
	return text
}

func TestEveryCallReturnsTheSameAgain(t *testing.T) {
	for _, f := range oddFields() {
		for _, a := range oddNumbers {
			b := a / 2
			list := []int64{a, b, 1}
			is(t, fmt.Sprint("again ", f, a), answers(f, a, b, list), answers(f, a, b, list))
		}
	}
}

func TestNilListsAreEmptyLists(t *testing.T) {
	for _, f := range oddFields() {
		is(t, fmt.Sprint("nil ", f), answers(f, 1, 1, []int64{}), answers(f, 1, 1, nil))
	}
}

func TestLongLists(t *testing.T) {
	f := impl.Field{Degree: 5, Poly: 37}
	list := make([]int64, 1000000)
	told(t, "long list", false, impl.OK)(impl.IsBasis(f, list))
	refused(t, "long list", impl.ErrState)(impl.CoordinatesIn(f, list, 1))
	refusedList(t, "long list", impl.ErrState)(impl.DualBasis(f, list))
	list[len(list)-1] = 32
	told(t, "long list with no element", false, impl.ErrRange)(impl.IsBasis(f, list))
	refused(t, "long list with no element", impl.ErrRange)(impl.CoordinatesIn(f, list, 1))
	refusedList(t, "long list with no element", impl.ErrRange)(impl.DualBasis(f, list))
}

func TestArgumentsStayAsTheyAre(t *testing.T) {
	for _, f := range allFields() {
		for _, list := range slices.Concat(someBases(f), noBases(f), [][]int64{{-1, 99}}) {
			// The unused capacity behind the list belongs to the argument, too.
			whole := append(slices.Clone(list), 77, 78, 79)
			before := slices.Clone(whole)
			answers(f, 1, 1, whole[:len(list)])
			is(t, fmt.Sprint(f, " argument ", list), before, whole)
		}
	}
}

// spoil overwrites a list and all of its capacity.
func spoil(list []int64) {
	list = list[:cap(list)]
	for i := range list {
		list[i] = -7
	}
}

// spoilEach overwrites one list after the other, and asks whether those behind it stay as they are.
func spoilEach(t *testing.T, name string, lists [][]int64) {
	t.Helper()
	for i, list := range lists {
		others := fmt.Sprint(lists[i+1:])
		spoil(list)
		is(t, fmt.Sprint(name, " results behind the result ", i), others, fmt.Sprint(lists[i+1:]))
	}
}

func TestResultsAreNewMemory(t *testing.T) {
	for _, f := range allFields() {
		basis := someBases(f)[0]
		before := slices.Clone(basis)
		text := answers(f, 1, 1, basis)
		dual, _ := impl.DualBasis(f, basis)
		conjugates, _ := impl.ConjugatesIn(f, 1)
		subfield, _ := impl.SubfieldIn(f, 1)
		fields, _ := impl.FieldsOf(f.Degree)
		spoil(dual)
		spoil(conjugates)
		spoil(subfield)
		clear(fields[:cap(fields)])
		is(t, fmt.Sprint(f, " basis"), before, basis)
		is(t, fmt.Sprint(f, " results behind overwritten ones"), text, answers(f, 1, 1, basis))
		all, _ := impl.FieldsOf(f.Degree)
		is(t, fmt.Sprint(f, " fields behind overwritten ones"), true, slices.Contains(all, f))
	}
}
