package tests

import (
	"fmt"
	"math"
	"slices"
	"testing"

	"loop.example/g01144/impl"
)

// Promise 17, for lists of spaces: codes of spaces are what they should be, and spreads are spreads.

// isSpaceList asks what the document asks of a code of spaces.
func isSpaceList(list []impl.Matrix) bool {
	if len(list) < 1 || len(list) > 400 {
		return false
	}
	for i, u := range list {
		if u.Cols < 1 || u.Cols > 10 || u.Cols != list[0].Cols || len(u.Rows) != len(list[0].Rows) {
			return false
		}
		for _, r := range u.Rows {
			if r < 0 || r >= 1<<u.Cols {
				return false
			}
		}
		if !isEchelon(u.Rows) {
			return false
		}
		for _, v := range list[:i] {
			if slices.Equal(u.Rows, v.Rows) {
				return false
			}
		}
	}
	return true
}

func TestValidSpaces(t *testing.T) {
	for _, list := range someSpaceLists() {
		is(t, fmt.Sprint("valid ", list), true, impl.ValidSpaces(list))
	}
	for _, list := range noSpaceLists() {
		is(t, fmt.Sprint("valid ", list), false, impl.ValidSpaces(list))
	}
	is(t, "as many as the limit", true, impl.ValidSpaces(pointSpaces(10, 400)))
	is(t, "one more than the limit", false, impl.ValidSpaces(pointSpaces(10, 401)))
}

// TestAllShortListsOfSpaces looks at all lists of up to three matrices, of which some are no spaces.
func TestAllShortListsOfSpaces(t *testing.T) {
	pool := slices.Concat(smallSpaces(1), smallSpaces(2), []impl.Matrix{{Cols: 2, Rows: []int64{2, 1}}, {Cols: 2, Rows: []int64{4}}, {}})
	for _, u := range pool {
		for _, v := range pool {
			for _, w := range pool {
				for _, list := range [][]impl.Matrix{{u}, {u, v}, {u, v, w}} {
					is(t, fmt.Sprint("valid ", list), isSpaceList(list), impl.ValidSpaces(list))
				}
			}
		}
	}
}

func TestLeastDistancesOfSpaces(t *testing.T) {
	for _, list := range someSpaceLists() {
		name := fmt.Sprint("least distance of ", list)
		if len(list) == 1 {
			refused(t, name, impl.ErrState)(impl.LeastSpaceDistance(list))
		} else {
			value(t, name, leastDistanceOf(list))(impl.LeastSpaceDistance(list))
		}
	}
	for _, list := range noSpaceLists() {
		refused(t, fmt.Sprint("least distance of ", list), impl.ErrInvalid)(impl.LeastSpaceDistance(list))
	}
}

// TestTheTwoNearestStandAnywhere has one pair of spaces that is nearer than the others.
func TestTheTwoNearestStandAnywhere(t *testing.T) {
	spread := []impl.Matrix{{Cols: 6, Rows: []int64{1, 2}}, {Cols: 6, Rows: []int64{4, 8}}, {Cols: 6, Rows: []int64{16, 32}}, {Cols: 6, Rows: []int64{21, 42}}, {Cols: 6, Rows: []int64{25, 46}}}
	value(t, "no pair", 4)(impl.LeastSpaceDistance(spread))
	for i, u := range spread {
		for place := range len(spread) + 1 {
			near := spaceOfRows(6, setOf([]int64{u.Rows[0], 35}).list)
			list := slices.Insert(slices.Clone(spread), place, near)
			name := fmt.Sprint(near, " near ", i, " at ", place)
			is(t, name, 2, distanceOfSpaces(near, u))
			value(t, name, 2)(impl.LeastSpaceDistance(list))
		}
	}
}

// checkNearest looks at all spaces of a list.
func checkNearest(t *testing.T, list []impl.Matrix, u impl.Matrix) {
	t.Helper()
	set := setOf(u.Rows)
	var least int64 = 1000
	var want []int64
	for i, other := range setsOf(list) {
		distance := set.distance(other)
		if distance < least {
			least, want = distance, nil
		}
		if distance == least {
			want = append(want, int64(i))
		}
	}
	nearestAt(t, fmt.Sprint("nearest to ", u, list), least, want)(impl.NearestSpaces(list, u))
}

func TestNearestSpaces(t *testing.T) {
	for _, list := range someSpaceLists() {
		others := someSpaces(list[0].Cols)
		if list[0].Cols <= 4 {
			others = everySpace(list[0].Cols)
		}
		for _, u := range append(others, list[0], list[len(list)/2], identity(list[0].Cols)) {
			checkNearest(t, list, u)
		}
	}
}

func TestNearestSpacesThatAreKnown(t *testing.T) {
	list := []impl.Matrix{{Cols: 3, Rows: []int64{1}}, {Cols: 3, Rows: []int64{6}}, {Cols: 3, Rows: []int64{3}}}
	nearestAt(t, "one of them", 0, []int64{1})(impl.NearestSpaces(list, impl.Matrix{Cols: 3, Rows: []int64{6}}))
	nearestAt(t, "another row", 2, []int64{0, 1, 2})(impl.NearestSpaces(list, impl.Matrix{Cols: 3, Rows: []int64{4}}))
	nearestAt(t, "two of them", 1, []int64{0, 2})(impl.NearestSpaces(list, impl.Matrix{Cols: 3, Rows: []int64{1, 2}}))
	nearestAt(t, "nothing", 1, []int64{0, 1, 2})(impl.NearestSpaces(list, impl.Matrix{Cols: 3}))
	nearestAt(t, "everything", 2, []int64{0, 1, 2})(impl.NearestSpaces(list, identity(3)))
	nearestAt(t, "nothing near nothing", 0, []int64{0})(impl.NearestSpaces([]impl.Matrix{{Cols: 1}}, impl.Matrix{Cols: 1}))
}

func TestSpacesThatAreNotNearest(t *testing.T) {
	for _, list := range someSpaceLists() {
		for cols := int64(1); cols <= 10; cols++ {
			if cols == list[0].Cols {
				continue
			}
			for _, u := range []impl.Matrix{{Cols: cols}, identity(cols), {Cols: cols, Rows: []int64{1}}} {
				refusedNearestAt(t, fmt.Sprint("nearest to ", u, list), impl.ErrRange)(impl.NearestSpaces(list, u))
			}
		}
	}
	for _, list := range noSpaceLists() {
		for _, u := range []impl.Matrix{{Cols: 3}, {Cols: 3, Rows: []int64{1, 2}}, identity(10), {}, {Cols: 2, Rows: []int64{2, 1}}} {
			refusedNearestAt(t, fmt.Sprint("nearest to ", u, list), impl.ErrInvalid)(impl.NearestSpaces(list, u))
		}
	}
	for _, a := range slices.Concat(noMatrices, noSpaces) {
		for _, list := range [][]impl.Matrix{{identity(3)}, {{Cols: 10}}, {identity(1)}, pointSpaces(2, 3)} {
			refusedNearestAt(t, fmt.Sprint("nearest to ", a, list), impl.ErrInvalid)(impl.NearestSpaces(list, a))
		}
	}
}

func TestDualsOfLists(t *testing.T) {
	for _, list := range someSpaceLists() {
		var want []impl.Matrix
		for _, u := range list {
			want = append(want, spaceOfRows(u.Cols, kernelOf(u)))
		}
		name := fmt.Sprint("duals of ", list)
		spaces(t, name, want)(impl.DualSpaces(list))
		spaces(t, name+" and theirs", list)(impl.DualSpaces(want))
	}
	for _, list := range noSpaceLists() {
		refusedSpaces(t, fmt.Sprint("duals of ", list), impl.ErrInvalid)(impl.DualSpaces(list))
	}
}

// TestDualsHaveTheSameDistances compares each pair.
func TestDualsHaveTheSameDistances(t *testing.T) {
	for _, list := range someSpaceLists() {
		duals, code := impl.DualSpaces(list)
		is(t, fmt.Sprint("duals of ", list), fmt.Sprint(impl.OK, true), fmt.Sprint(code, impl.ValidSpaces(duals)))
		least, code := impl.LeastSpaceDistance(list)
		other, otherCode := impl.LeastSpaceDistance(duals)
		is(t, fmt.Sprint("least distance of duals of ", list), fmt.Sprint(least, code), fmt.Sprint(other, otherCode))
		for i, u := range list[:min(20, len(list))] {
			for k, v := range list[:i] {
				is(t, fmt.Sprint("distance of duals of ", u, v), distanceOfSpaces(u, v), distanceOfSpaces(duals[i], duals[k]))
			}
		}
	}
}

// rowsOf counts, for each row, the spaces of a list that have it.
func rowsOf(list []impl.Matrix) []int {
	counts := make([]int, 1<<list[0].Cols)
	for _, set := range setsOf(list) {
		for _, r := range set.list {
			counts[r]++
		}
	}
	return counts
}

// isSpread looks at all rows.
func isSpread(list []impl.Matrix) bool {
	return !slices.ContainsFunc(rowsOf(list)[1:], func(count int) bool { return count != 1 })
}

// checkSpread asks for the rows of a list, and, if these are many, for some of them, whether it is a spread or not.
func checkSpread(t *testing.T, list []impl.Matrix) {
	t.Helper()
	want, rows := isSpread(list), int64(1)<<list[0].Cols
	told(t, fmt.Sprint("spread ", list), want, impl.OK)(impl.IsSpread(list))
	for _, r := range []int64{0, -1, math.MinInt64, rows, rows + 1, math.MaxInt64} {
		name := fmt.Sprint("space with ", r, list)
		if want {
			refused(t, name, impl.ErrRange)(impl.SpreadIndex(list, r))
		} else {
			refused(t, name, impl.ErrState)(impl.SpreadIndex(list, r))
		}
	}
	if !want {
		refused(t, fmt.Sprint("space with 1 ", list), impl.ErrState)(impl.SpreadIndex(list, 1))
		refused(t, fmt.Sprint("space with the last row ", list), impl.ErrState)(impl.SpreadIndex(list, rows-1))
		return
	}
	for i, set := range setsOf(list) {
		for _, r := range set.list[1:] {
			if rows <= 64 || r%9 == int64(i)%9 {
				value(t, fmt.Sprint("space with ", r, list), int64(i))(impl.SpreadIndex(list, r))
			}
		}
	}
}

// spreadOf multiplies the elements that are left as they are by being squared k times with all elements but 0.
func spreadOf(f impl.Field, k int64) []impl.Matrix {
	var list []impl.Matrix
	for a := int64(1); a < sizeOf(f); a++ {
		var rows []int64
		for b := range sizeOf(f) {
			if squared(f, b, k) == b {
				rows = append(rows, times(f, a, b))
			}
		}
		list = append(list, spaceOfRows(f.Degree, rows))
	}
	slices.SortFunc(list, func(u, v impl.Matrix) int { return slices.Compare(u.Rows, v.Rows) })
	return slices.CompactFunc(list, impl.SameMatrix)
}

func TestSpreads(t *testing.T) {
	for n := int64(1); n <= 5; n++ {
		f, _ := impl.FieldOf(n)
		for k := int64(1); k <= n; k++ {
			name := fmt.Sprint("spread of ", n, " and ", k)
			if n%k != 0 {
				refusedSpaces(t, name, impl.ErrRange)(impl.SpreadOf(n, k))
				continue
			}
			list := spreadOf(f, k)
			spaces(t, name, list)(impl.SpreadOf(n, k))
			is(t, name+" number and dimension", fmt.Sprint((1<<n-1)/(1<<k-1), k, n), fmt.Sprint(len(list), len(list[0].Rows), list[0].Cols))
			checkSpread(t, list)
		}
		for _, k := range append([]int64{0, -1, -n, n + 1, 2 * n}, oddNumbers...) {
			if k < 1 || k > n {
				refusedSpaces(t, fmt.Sprint("spread of ", n, " and ", k), impl.ErrRange)(impl.SpreadOf(n, k))
			}
		}
	}
	for _, n := range []int64{0, -1, -4, 6, 8, 10, 64, 1 << 32, math.MaxInt64, math.MinInt64} {
		for _, k := range []int64{1, 2, 0, -1, n} {
			refusedSpaces(t, fmt.Sprint("spread of ", n, " and ", k), impl.ErrRange)(impl.SpreadOf(n, k))
		}
	}
}

func TestSpreadsThatAreKnown(t *testing.T) {
	spaces(t, "4 and 2", []impl.Matrix{
		{Cols: 4, Rows: []int64{1, 6}},
		{Cols: 4, Rows: []int64{2, 12}},
		{Cols: 4, Rows: []int64{5, 8}},
		{Cols: 4, Rows: []int64{9, 10}},
		{Cols: 4, Rows: []int64{11, 4}},
	})(impl.SpreadOf(4, 2))
	spaces(t, "1 and 1", []impl.Matrix{identity(1)})(impl.SpreadOf(1, 1))
	spaces(t, "2 and 1", pointSpaces(2, 3))(impl.SpreadOf(2, 1))
	spaces(t, "5 and 1", pointSpaces(5, 31))(impl.SpreadOf(5, 1))
	spaces(t, "5 and 5", []impl.Matrix{identity(5)})(impl.SpreadOf(5, 5))
}

// liftedSpread has the lifted words of a Gabidulin code with as many points as the degree and the dimension 1, and the space of what is behind their places.
func liftedSpread(f impl.Field) []impl.Matrix {
	g := impl.Gabidulin{Field: f, Points: someBases(f)[0], Dimension: 1}
	var list []impl.Matrix
	for a := range sizeOf(f) {
		list = append(list, liftedOf(f, wordOfMessage(g, []int64{a})))
	}
	behind := identity(2 * f.Degree)
	behind.Rows = behind.Rows[f.Degree:]
	return append(list, behind)
}

// otherSpreads are not what SpreadOf returns, or have another order.
func otherSpreads() [][]impl.Matrix {
	list := [][]impl.Matrix{pointSpaces(8, 255), {identity(10)}, {identity(7)}}
	for _, f := range allFields() {
		list = append(list, liftedSpread(f))
		for k := int64(1); k <= f.Degree; k++ {
			if f.Degree%k == 0 {
				spread := spreadOf(f, k)
				slices.Reverse(spread)
				list = append(list, spread, append(slices.Clone(spread[1:]), spread[0]))
			}
		}
	}
	return list
}

func TestOtherSpreads(t *testing.T) {
	for _, list := range otherSpreads() {
		is(t, fmt.Sprint("spread ", list), true, isSpread(list))
		checkSpread(t, list)
	}
	is(t, "spaces with 10 columns", "33 10", fmt.Sprint(len(liftedSpread(impl.Field{Degree: 5, Poly: 37})), liftedSpread(impl.Field{Degree: 5, Poly: 37})[0].Cols))
}

// TestListsThatAreAlmostSpreads lack one space, or have another one instead of it, or one more.
func TestListsThatAreAlmostSpreads(t *testing.T) {
	for _, list := range otherSpreads() {
		cols, dimension := list[0].Cols, int64(len(list[0].Rows))
		for _, place := range []int{0, len(list) / 2, len(list) - 1} {
			if len(list) > 1 {
				checkSpread(t, slices.Delete(slices.Clone(list), place, place+1))
			}
			if cols > 5 || dimension == cols || dimension == 1 {
				continue
			}
			for _, u := range everySpaceOf(cols, dimension) {
				if slices.ContainsFunc(list, func(v impl.Matrix) bool { return impl.SameMatrix(u, v) }) {
					continue
				}
				other := slices.Clone(list)
				other[place] = u
				is(t, fmt.Sprint("spread ", other), false, isSpread(other))
				checkSpread(t, other)
				checkSpread(t, slices.Insert(slices.Clone(list), place, u))
			}
		}
	}
	// One row is in two spaces, and one in none.
	checkSpread(t, []impl.Matrix{{Cols: 2, Rows: []int64{1}}, {Cols: 2, Rows: []int64{3}}})
	checkSpread(t, append(liftedSpread(impl.Field{Degree: 5, Poly: 37})[:32], impl.Matrix{Cols: 10, Rows: []int64{1, 64, 128, 256, 512}}))
}

func TestListsThatAreNoSpreads(t *testing.T) {
	for _, list := range someSpaceLists() {
		checkSpread(t, list)
	}
	for cols := int64(1); cols <= 10; cols++ {
		// The rows other than 0 are in no space.
		told(t, fmt.Sprint("spread of nothing ", cols), false, impl.OK)(impl.IsSpread([]impl.Matrix{{Cols: cols}}))
		refused(t, fmt.Sprint("spread of nothing ", cols), impl.ErrState)(impl.SpreadIndex([]impl.Matrix{{Cols: cols}}, 1))
		told(t, fmt.Sprint("spread of everything ", cols), true, impl.OK)(impl.IsSpread([]impl.Matrix{identity(cols)}))
	}
	for _, list := range noSpaceLists() {
		told(t, fmt.Sprint("spread ", list), false, impl.ErrInvalid)(impl.IsSpread(list))
		for _, r := range []int64{1, 0, -1, 5, 1024} {
			refused(t, fmt.Sprint("space with ", r, list), impl.ErrInvalid)(impl.SpreadIndex(list, r))
		}
	}
}

// TestSpreadsAmongAllLists looks at all sets of spaces with up to 3 columns.
func TestSpreadsAmongAllLists(t *testing.T) {
	for cols := int64(1); cols <= 3; cols++ {
		for dimension := int64(0); dimension <= cols; dimension++ {
			all := everySpaceOf(cols, dimension)
			for chosen := int64(1); chosen < 1<<len(all); chosen++ {
				var list []impl.Matrix
				for i, u := range all {
					if chosen>>i&1 == 1 {
						list = append(list, u)
					}
				}
				checkSpread(t, list)
			}
		}
	}
}
