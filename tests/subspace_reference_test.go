package tests

import (
	"fmt"
	"math/bits"
	"slices"
	"testing"

	"loop.example/g01144/impl"
)

// What the tests of chapter 6 hold the program against: sets of the rows of spaces, and lists of all spaces.

// rowSet has all rows of a space.
type rowSet struct {
	list []int64
	has  [1024]bool
}

// setOf adds the sums with one row more, again and again.
func setOf(rows []int64) *rowSet {
	set := &rowSet{list: []int64{0}}
	set.has[0] = true
	for _, r := range rows {
		if set.has[r] {
			continue
		}
		for _, s := range slices.Clone(set.list) {
			set.list = append(set.list, r^s)
			set.has[r^s] = true
		}
	}
	return set
}

// distance is what each of both has more than what both have, counted in dimensions.
func (s *rowSet) distance(other *rowSet) int64 {
	var common []int64
	for _, r := range s.list {
		if other.has[r] {
			common = append(common, r)
		}
	}
	return dimensionOf(s.list) + dimensionOf(other.list) - 2*dimensionOf(common)
}

// setsOf has the rows of each space of a list.
func setsOf(list []impl.Matrix) []*rowSet {
	var sets []*rowSet
	for _, u := range list {
		sets = append(sets, setOf(u.Rows))
	}
	return sets
}

// distanceOfSpaces compares all rows.
func distanceOfSpaces(u, v impl.Matrix) int64 {
	return setOf(u.Rows).distance(setOf(v.Rows))
}

// leastDistanceOf looks at all pairs.
func leastDistanceOf(list []impl.Matrix) int64 {
	sets := setsOf(list)
	least := int64(1000)
	for i, one := range sets {
		for _, two := range sets[:i] {
			least = min(least, one.distance(two))
		}
	}
	return least
}

// liftedOf writes one column after the other, from the last one on.
func liftedOf(f impl.Field, w []int64) impl.Matrix {
	length := int64(len(w))
	u := impl.Matrix{Cols: length + f.Degree}
	for i, a := range w {
		r := int64(0)
		for column := u.Cols - 1; column >= 0; column-- {
			r *= 2
			if column >= length && a>>(column-length)%2 == 1 || column == int64(i) {
				r++
			}
		}
		u.Rows = append(u.Rows, r)
	}
	return u
}

// liftedWords are the spaces of some words, in their order.
func liftedWords(f impl.Field, words [][]int64) []impl.Matrix {
	var list []impl.Matrix
	for _, w := range words {
		list = append(list, liftedOf(f, w))
	}
	return list
}

// everySpaceOf lists all echelon forms with a dimension, in the order of their lists of rows: the codes over two elements, as it were.
func everySpaceOf(cols, dimension int64) []impl.Matrix {
	var list []impl.Matrix
	for leads := range int64(1) << cols {
		if int64(bits.OnesCount64(uint64(leads))) != dimension {
			continue
		}
		for _, c := range codesWithLeads(impl.Field{Degree: 1, Poly: 2}, cols, leads) {
			u := impl.Matrix{Cols: cols}
			for _, elements := range c.Rows {
				r := int64(0)
				for column, a := range elements {
					r += a << column
				}
				u.Rows = append(u.Rows, r)
			}
			list = append(list, u)
		}
	}
	slices.SortFunc(list, func(u, v impl.Matrix) int { return slices.Compare(u.Rows, v.Rows) })
	return list
}

// everySpace lists them for all dimensions.
func everySpace(cols int64) []impl.Matrix {
	var list []impl.Matrix
	for dimension := range cols + 1 {
		list = append(list, everySpaceOf(cols, dimension)...)
	}
	return list
}

// pointSpaces have one row each, which is 1, 2 and so on.
func pointSpaces(cols, number int64) []impl.Matrix {
	var list []impl.Matrix
	for r := int64(1); r <= number; r++ {
		list = append(list, impl.Matrix{Cols: cols, Rows: []int64{r}})
	}
	return list
}

// copiedSpaces are equal ones in other memory.
func copiedSpaces(list []impl.Matrix) []impl.Matrix {
	copied := slices.Clone(list)
	for i, u := range copied {
		copied[i].Rows = slices.Clone(u.Rows)
	}
	return copied
}

// someSpaceLists are codes of spaces of all kinds: short ones, long ones, spreads and lists that are almost spreads.
func someSpaceLists() [][]impl.Matrix {
	lists := [][]impl.Matrix{
		{{Cols: 1}},
		{{Cols: 10}},
		{identity(1)},
		{identity(10)},
		{{Cols: 4, Rows: []int64{1, 2}}, {Cols: 4, Rows: []int64{1, 4}}},
		{{Cols: 10, Rows: []int64{1, 2, 4, 8, 16}}, {Cols: 10, Rows: []int64{32, 64, 128, 256, 512}}},
		{{Cols: 10, Rows: []int64{512}}, {Cols: 10, Rows: []int64{1}}, {Cols: 10, Rows: []int64{1023}}},
		pointSpaces(5, 31),
		pointSpaces(9, 400),
		manyPlanes(400),
	}
	for n := int64(1); n <= 5; n++ {
		for k := int64(0); k <= n; k++ {
			list := everySpaceOf(n, k)
			lists = append(lists, list, list[:1], list[len(list)/2:])
			// In another order, and with some left out.
			var others []impl.Matrix
			for i := range (len(list) + 2) / 3 {
				others = append(others, list[len(list)-1-i*3])
			}
			lists = append(lists, others)
		}
	}
	for _, f := range []impl.Field{{Degree: 2, Poly: 7}, {Degree: 3, Poly: 13}, {Degree: 4, Poly: 25}} {
		lists = append(lists, liftedWords(f, orderedLists(f, 2)), liftedWords(f, [][]int64{{1, 2, 3, 1}, {1, 2, 1, 2}, {0, 0, 0, 0}}))
	}
	return lists
}

// manyPlanes have the dimension 2 and 7 columns.
func manyPlanes(number int) []impl.Matrix {
	var list []impl.Matrix
	for one := int64(1); one < 128; one++ {
		for two := one + 1; two < 128 && len(list) < number; two++ {
			if isEchelon([]int64{one, two}) {
				list = append(list, impl.Matrix{Cols: 7, Rows: []int64{one, two}})
			}
		}
	}
	return list
}

// noSpaceLists are lists that are no codes of spaces, each for a reason of its own.
func noSpaceLists() [][]impl.Matrix {
	one, two, three := impl.Matrix{Cols: 3, Rows: []int64{1, 2}}, impl.Matrix{Cols: 3, Rows: []int64{1, 4}}, impl.Matrix{Cols: 3, Rows: []int64{2, 4}}
	again := copiedSpaces([]impl.Matrix{one})[0]
	lists := [][]impl.Matrix{
		nil,
		{},
		{one, one},
		{one, again},
		{one, two, again},
		{two, one, three, again},
		{{Cols: 3}, {Cols: 3}},
		{identity(10), identity(10)},
		{one, {Cols: 3, Rows: []int64{4}}},
		{{Cols: 3, Rows: []int64{4}}, one},
		{one, two, identity(3)},
		{one, {Cols: 3}},
		{{Cols: 3}, one},
		{one, {Cols: 4, Rows: []int64{1, 2}}},
		{{Cols: 4, Rows: []int64{1, 2}}, one},
		{one, two, {Cols: 4, Rows: []int64{4, 8}}},
		{{Cols: 1}, {Cols: 2}},
		pointSpaces(9, 401),
		pointSpaces(9, 511),
		pointSpaces(10, 1023),
		append(pointSpaces(9, 399), impl.Matrix{Cols: 9, Rows: []int64{399}}),
		append(pointSpaces(9, 399), impl.Matrix{Cols: 9, Rows: []int64{512}}),
		append(pointSpaces(9, 399), impl.Matrix{Cols: 10, Rows: []int64{400}}),
		append(pointSpaces(9, 400), impl.Matrix{Cols: 9, Rows: []int64{1}}),
		manyPlanes(401),
	}
	for _, a := range slices.Concat(noMatrices, noSpaces) {
		lists = append(lists, []impl.Matrix{a}, []impl.Matrix{one, a}, []impl.Matrix{a, one}, []impl.Matrix{one, two, a, three})
	}
	return lists
}

// spaces asks for a list of spaces and OK.
func spaces(t *testing.T, name string, want []impl.Matrix) func(got []impl.Matrix, code int64) {
	return func(got []impl.Matrix, code int64) {
		t.Helper()
		is(t, name, fmt.Sprint(want, impl.OK), fmt.Sprint(got, code))
	}
}

// refusedSpaces asks for an error and no spaces.
func refusedSpaces(t *testing.T, name string, want int64) func(got []impl.Matrix, code int64) {
	return func(got []impl.Matrix, code int64) {
		t.Helper()
		is(t, name, fmt.Sprint("[] ", want), fmt.Sprint(got, " ", code))
	}
}

// nearestAt asks for a distance, indices and OK.
func nearestAt(t *testing.T, name string, wantLeast int64, want []int64) func(least int64, got []int64, code int64) {
	return func(least int64, got []int64, code int64) {
		t.Helper()
		is(t, name, fmt.Sprint(wantLeast, want, impl.OK), fmt.Sprint(least, got, code))
	}
}

// refusedNearestAt asks for an error, the distance 0 and no indices.
func refusedNearestAt(t *testing.T, name string, want int64) func(least int64, got []int64, code int64) {
	return func(least int64, got []int64, code int64) {
		t.Helper()
		is(t, name, fmt.Sprint("0 [] ", want), fmt.Sprint(least, got, " ", code))
	}
}
