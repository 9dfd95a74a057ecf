package tests

import (
	"fmt"
	"math"
	"testing"

	"loop.example/g01144/impl"
)

// Promise 17, for numbers: spaces are counted by their distances, and codes of spaces keep the bounds.

// noSizes are numbers of columns and dimensions of which there are no spaces.
var noSizes = [][2]int64{{0, 0}, {0, 1}, {-1, 0}, {-1, -1}, {11, 0}, {11, 5}, {11, 11}, {64, 1}, {math.MaxInt64, 1}, {math.MinInt64, 0}, {1, -1}, {1, 2}, {4, 5}, {4, -1}, {10, 11}, {10, math.MaxInt64}, {10, math.MinInt64}}

// countAt counts the spaces in a list at a distance from one of them.
func countAt(sets []*rowSet, from *rowSet, distance int64) int64 {
	count := int64(0)
	for _, set := range sets {
		if set.distance(from) == distance {
			count++
		}
	}
	return count
}

func TestSpacesNearEachSpace(t *testing.T) {
	for n := int64(1); n <= 6; n++ {
		for k := int64(0); k <= n; k++ {
			sets := setsOf(everySpaceOf(n, k))
			for i, from := range sets {
				if n > 4 && i%(len(sets)/2+1) != 0 {
					continue
				}
				for r := int64(0); r <= k+2; r++ {
					value(t, fmt.Sprint("near ", n, k, r, from.list), countAt(sets, from, 2*r))(impl.CountNear(n, k, r))
				}
			}
		}
	}
}

// nearOf is what the document says.
func nearOf(n, k, r int64) int64 {
	if r > k || r > n-k {
		return 0
	}
	product := countOrOne(k, r) * countOrOne(n-k, r)
	for range r * r {
		product *= 2
	}
	return product
}

// countOrOne counts, also without columns, the space without rows.
func countOrOne(n, k int64) int64 {
	if n == 0 {
		return 1
	}
	return countByLists(n, k)
}

func TestSpacesNear(t *testing.T) {
	for n := int64(1); n <= 10; n++ {
		for k := int64(0); k <= n; k++ {
			all := int64(0)
			for r := range int64(13) {
				name := fmt.Sprint("near ", n, k, r)
				value(t, name, nearOf(n, k, r))(impl.CountNear(n, k, r))
				value(t, name+" of duals", nearOf(n, k, r))(impl.CountNear(n, n-k, r))
				all += nearOf(n, k, r)
			}
			is(t, fmt.Sprint("all spaces ", n, k), countByLists(n, k), all)
			value(t, fmt.Sprint("the space itself ", n, k), 1)(impl.CountNear(n, k, 0))
			for _, r := range []int64{min(k, n-k) + 1, k + 1, n, 64, 1 << 32, math.MaxInt64} {
				if r > min(k, n-k) {
					value(t, fmt.Sprint("too far away ", n, k, r), 0)(impl.CountNear(n, k, r))
				}
			}
			for _, r := range []int64{-1, -2, -64, math.MinInt64} {
				refused(t, fmt.Sprint("near ", n, k, r), impl.ErrRange)(impl.CountNear(n, k, r))
			}
		}
	}
	value(t, "as far as possible", 1<<25)(impl.CountNear(10, 5, 5))
	for _, size := range noSizes {
		for _, r := range []int64{0, 1, -1, math.MaxInt64, math.MinInt64} {
			refused(t, fmt.Sprint("near ", size, r), impl.ErrRange)(impl.CountNear(size[0], size[1], r))
		}
	}
}

// noDistances are no least distances of spaces of a dimension.
func noDistances(k int64) []int64 {
	list := []int64{0, -1, -2, -4, 1, 3, 5, 2*k - 1, 2*k + 1, 2*k + 2, 2*k + 4, 63, 64, 1 << 32, 1<<32 + 2, math.MaxInt64, math.MaxInt64 - 1, math.MinInt64, math.MinInt64 + 2}
	for _, distance := range oddNumbers {
		if distance < 2 || distance > 2*k || distance%2 != 0 {
			list = append(list, distance)
		}
	}
	return list
}

// packingOf divides by the number of spaces around one of them, up to less than half of the distance.
func packingOf(n, k, distance int64) int64 {
	ball := int64(0)
	for r := int64(0); 4*r < distance; r++ {
		ball += nearOf(n, k, r)
	}
	return countByLists(n, k) / ball
}

// designOf divides the number of spaces of which none is contained in two by how many are contained in one.
func designOf(n, k, distance int64) int64 {
	// Two of the spaces with this distance have fewer dimensions together.
	contained := k + 1
	for range distance / 2 {
		contained--
	}
	return countByLists(n, contained) / countByLists(k, contained)
}

func TestBoundsOfSpaces(t *testing.T) {
	for n := int64(1); n <= 10; n++ {
		for k := int64(0); k <= n; k++ {
			for distance := int64(2); distance <= 2*k; distance += 2 {
				name := fmt.Sprint("bound of ", n, k, distance)
				value(t, name, packingOf(n, k, distance))(impl.PackingBound(n, k, distance))
				value(t, name, designOf(n, k, distance))(impl.DesignBound(n, k, distance))
			}
			for _, distance := range noDistances(k) {
				name := fmt.Sprint("bound of ", n, k, distance)
				refused(t, name, impl.ErrRange)(impl.PackingBound(n, k, distance))
				refused(t, name, impl.ErrRange)(impl.DesignBound(n, k, distance))
			}
		}
	}
	for _, size := range noSizes {
		for _, distance := range append(noDistances(2), 2, 4) {
			name := fmt.Sprint("bound of ", size, distance)
			refused(t, name, impl.ErrRange)(impl.PackingBound(size[0], size[1], distance))
			refused(t, name, impl.ErrRange)(impl.DesignBound(size[0], size[1], distance))
		}
	}
}

func TestBoundsOfSpacesThatAreKnown(t *testing.T) {
	for _, known := range [][5]int64{
		{4, 2, 2, 35, 35},
		{4, 2, 4, 35, 5},
		{6, 3, 4, 1395, 93},
		{6, 3, 6, 14, 9},
		{6, 2, 4, 651, 21},
		{7, 3, 4, 11811, 381},
		{1, 1, 2, 1, 1},
		{3, 2, 4, 7, 2},
		{3, 3, 6, 1, 1},
		{10, 5, 2, 109221651, 109221651},
	} {
		n, k, distance := known[0], known[1], known[2]
		value(t, fmt.Sprint("balls ", known), known[3])(impl.PackingBound(n, k, distance))
		value(t, fmt.Sprint("designs ", known), known[4])(impl.DesignBound(n, k, distance))
	}
}

// TestBallsAreCounted looks at all spaces that are nearer to one of them than half of the distance.
func TestBallsAreCounted(t *testing.T) {
	for n := int64(1); n <= 6; n++ {
		for k := int64(1); k <= n; k++ {
			sets := setsOf(everySpaceOf(n, k))
			for distance := int64(2); distance <= 2*k; distance += 2 {
				ball := int64(0)
				for _, set := range sets {
					if 2*set.distance(sets[0]) < distance {
						ball++
					}
				}
				value(t, fmt.Sprint("bound of ", n, k, distance), int64(len(sets))/ball)(impl.PackingBound(n, k, distance))
			}
		}
	}
}

// checkBounds asks whether there are no more spaces than the bounds allow.
func checkBounds(t *testing.T, list []impl.Matrix) {
	t.Helper()
	n, k := list[0].Cols, int64(len(list[0].Rows))
	least := 2 * k
	if len(list) > 1 {
		least = leastDistanceOf(list)
	}
	if least < 2 {
		return
	}
	for distance := int64(2); distance <= least; distance += 2 {
		name := fmt.Sprint("bound ", distance, " of ", list)
		packing, one := impl.PackingBound(n, k, distance)
		design, two := impl.DesignBound(n, k, distance)
		is(t, name, fmt.Sprint(impl.OK, impl.OK), fmt.Sprint(one, two))
		is(t, name, true, int64(len(list)) <= min(packing, design))
	}
}

func TestCodesOfSpacesKeepTheBounds(t *testing.T) {
	for _, list := range someSpaceLists() {
		checkBounds(t, list)
	}
	for _, f := range allFields() {
		for _, c := range codesToList(f, 64) {
			list, _ := impl.LiftedCode(c)
			checkBounds(t, list)
		}
	}
	for _, list := range otherSpreads() {
		checkBounds(t, list)
		// A spread has as many spaces as there can be.
		k := int64(len(list[0].Rows))
		value(t, fmt.Sprint("bound of the spread ", list), int64(len(list)))(impl.DesignBound(list[0].Cols, k, 2*k))
	}
}

// greedyOf takes spaces in the order of their lists of rows.
func greedyOf(n, k, distance int64) []impl.Matrix {
	var taken []impl.Matrix
	var sets []*rowSet
search:
	for _, u := range everySpaceOf(n, k) {
		set := setOf(u.Rows)
		for _, other := range sets {
			if other.distance(set) < distance {
				continue search
			}
		}
		taken, sets = append(taken, u), append(sets, set)
	}
	return taken
}

func TestGreedySpaces(t *testing.T) {
	for n := int64(1); n <= 10; n++ {
		for k := int64(0); k <= n; k++ {
			for distance := int64(2); distance <= 2*k; distance += 2 {
				name := fmt.Sprint("greedy ", n, k, distance)
				if countByLists(n, k) > 400 {
					refusedSpaces(t, name, impl.ErrLimit)(impl.GreedySpaces(n, k, distance))
					continue
				}
				want := greedyOf(n, k, distance)
				spaces(t, name, want)(impl.GreedySpaces(n, k, distance))
				is(t, name+" is valid", true, impl.ValidSpaces(want))
				is(t, name+" has the distance", true, len(want) == 1 || leastDistanceOf(want) >= distance)
				checkBounds(t, want)
			}
			for _, distance := range noDistances(k) {
				refusedSpaces(t, fmt.Sprint("greedy ", n, k, distance), impl.ErrRange)(impl.GreedySpaces(n, k, distance))
			}
		}
	}
	for _, size := range noSizes {
		for _, distance := range append(noDistances(2), 2, 4) {
			refusedSpaces(t, fmt.Sprint("greedy ", size, distance), impl.ErrRange)(impl.GreedySpaces(size[0], size[1], distance))
		}
	}
}

func TestGreedySpacesThatAreKnown(t *testing.T) {
	spaces(t, "planes with 4 columns", []impl.Matrix{
		{Cols: 4, Rows: []int64{1, 2}},
		{Cols: 4, Rows: []int64{4, 8}},
		{Cols: 4, Rows: []int64{5, 10}},
		{Cols: 4, Rows: []int64{9, 14}},
		{Cols: 4, Rows: []int64{13, 6}},
	})(impl.GreedySpaces(4, 2, 4))
	spaces(t, "farther than there is", []impl.Matrix{{Cols: 3, Rows: []int64{1, 2}}})(impl.GreedySpaces(3, 2, 4))
	spaces(t, "all rows", pointSpaces(8, 255))(impl.GreedySpaces(8, 1, 2))
	spaces(t, "everything", []impl.Matrix{identity(10)})(impl.GreedySpaces(10, 10, 20))
	refusedSpaces(t, "511 spaces", impl.ErrLimit)(impl.GreedySpaces(9, 1, 2))
	refusedSpaces(t, "511 spaces and an odd distance", impl.ErrRange)(impl.GreedySpaces(9, 1, 1))
}
