package tests

import (
	"fmt"
	"math"
	"slices"
	"testing"

	"loop.example/g01144/impl"
)

// What the tests of chapter 4 hold the program against: words as matrices, and codes as lists of all their words.

// noLengths are numbers of elements that no word has.
var noLengths = []int64{0, -1, 6, 7, 10, 64, 1 << 32, math.MaxInt64, math.MinInt64}

// noWords are lists that are no words over a field, each for a reason of its own.
func noWords(f impl.Field) [][]int64 {
	lists := [][]int64{{}, {0, 0, 0, 0, 0, 0}, {1, 1, 1, 1, 1, 1, 1, 1, 1, 1, 1}}
	for _, a := range noElements(f) {
		lists = append(lists, []int64{a}, []int64{a, 0}, []int64{0, a}, []int64{1, 1, a, 1}, []int64{1, 1, 1, 1, a})
	}
	return lists
}

// columnsOf are the columns of the matrix of a word, with a bit for each of its elements.
func columnsOf(f impl.Field, w []int64) []int64 {
	columns := make([]int64, f.Degree)
	for i, a := range w {
		for k := range columns {
			columns[k] |= a >> k & 1 << i
		}
	}
	return columns
}

// rankOfWord is the dimension of the space of all sums of elements.
func rankOfWord(w []int64) int64 {
	return dimensionOf(sumsOf(impl.Matrix{Rows: w}))
}

// sumOfWords adds place by place.
func sumOfWords(u, w []int64) []int64 {
	sum := slices.Clone(u)
	for i, a := range w {
		sum[i] ^= a
	}
	return sum
}

// multipleOfWord multiplies place by place.
func multipleOfWord(f impl.Field, a int64, w []int64) []int64 {
	list := make([]int64, len(w))
	for i, b := range w {
		list[i] = times(f, a, b)
	}
	return list
}

// wordOf adds the rows of a code, each multiplied by an element of the message.
func wordOf(c impl.RankCode, message []int64) []int64 {
	sum := make([]int64, c.Length)
	for i, a := range message {
		sum = sumOfWords(sum, multipleOfWord(c.Field, a, c.Rows[i]))
	}
	return sum
}

// orderedLists are all lists of so many elements, in the order of lists.
func orderedLists(f impl.Field, length int) [][]int64 {
	if length == 0 {
		return [][]int64{{}}
	}
	var list [][]int64
	for _, begin := range orderedLists(f, length-1) {
		for a := int64(0); a < sizeOf(f); a++ {
			list = append(list, append(slices.Clone(begin), a))
		}
	}
	return list
}

// numberOfWords has as many factors as the code has rows.
func numberOfWords(c impl.RankCode) int64 {
	number := int64(1)
	for range c.Rows {
		number *= sizeOf(c.Field)
	}
	return number
}

// wordsOfCode are the words of all messages, in the order of these.
func wordsOfCode(c impl.RankCode) [][]int64 {
	var list [][]int64
	for _, message := range orderedLists(c.Field, len(c.Rows)) {
		list = append(list, wordOf(c, message))
	}
	return list
}

// leadOfWord is the first place with an element other than 0, and the number of places if there is none.
func leadOfWord(w []int64) int {
	for i, a := range w {
		if a != 0 {
			return i
		}
	}
	return len(w)
}

// rowsOfWords has, of all words of a code, those with a 1 at one lead and zeros at the other ones.
func rowsOfWords(length int64, words [][]int64) [][]int64 {
	isLead := make([]bool, length+1)
	for _, w := range words {
		isLead[leadOfWord(w)] = true
	}
	var rows [][]int64
	for place := range length {
		for _, w := range words {
			fits := isLead[place]
			for i, a := range w {
				fits = fits && (!isLead[i] || a == 0 && int64(i) != place || a == 1 && int64(i) == place)
			}
			if fits {
				rows = append(rows, w)
			}
		}
	}
	return rows
}

// isFieldEchelon asks what the document asks of rows that FieldEchelon returns.
func isFieldEchelon(rows [][]int64) bool {
	for i, r := range rows {
		lead := leadOfWord(r)
		if lead == len(r) || r[lead] != 1 || i > 0 && lead <= leadOfWord(rows[i-1]) {
			return false
		}
		for k, other := range rows {
			if i != k && other[lead] != 0 {
				return false
			}
		}
	}
	return true
}

// codeWithLeads has its leads at the places that are bits of a number, and what fill returns at the places behind them.
func codeWithLeads(f impl.Field, length, leads int64, fill func() int64) impl.RankCode {
	c := impl.RankCode{Field: f, Length: length}
	for lead := range length {
		if leads>>lead&1 == 0 {
			continue
		}
		r := make([]int64, length)
		r[lead] = 1
		for place := lead + 1; place < length; place++ {
			if leads>>place&1 == 0 {
				r[place] = fill()
			}
		}
		c.Rows = append(c.Rows, r)
	}
	return c
}

// codesWithLeads are all codes with a length whose leads are the bits of a number.
func codesWithLeads(f impl.Field, length, leads int64) []impl.RankCode {
	var list []impl.RankCode
	places := int64(0)
	codeWithLeads(f, length, leads, func() int64 { places++; return 0 })
	listsOf(f, places, func(elements []int64) {
		rest := elements
		list = append(list, codeWithLeads(f, length, leads, func() int64 {
			a := rest[0]
			rest = rest[1:]
			return a
		}))
	})
	return list
}

// allCodes are all codes with a length.
func allCodes(f impl.Field, length int64) []impl.RankCode {
	var list []impl.RankCode
	for leads := range int64(1) << length {
		list = append(list, codesWithLeads(f, length, leads)...)
	}
	return list
}

// mixedCode looks, but for its leads, as if it had been drawn by lot.
func mixedCode(f impl.Field, length, leads, seed int64) impl.RankCode {
	elements := mixedWord(f, 10, seed*31+leads)
	return codeWithLeads(f, length, leads, func() int64 {
		a := elements[0]
		elements = append(elements[1:], a)
		return a
	})
}

// mixedWord looks as if it had been drawn by lot.
func mixedWord(f impl.Field, length, seed int64) []int64 {
	return mixedMatrix(f.Degree, length, seed*7+length, 6).Rows
}

// someCodes are all short codes of a field, and some of all lengths and leads.
func someCodes(f impl.Field) []impl.RankCode {
	whole := map[int64]int64{1: 4, 2: 3, 3: 2, 4: 2, 5: 2}[f.Degree]
	var list []impl.RankCode
	for length := int64(1); length <= 5; length++ {
		if length <= whole {
			list = append(list, allCodes(f, length)...)
			continue
		}
		for leads := range int64(1) << length {
			list = append(list, mixedCode(f, length, leads, length))
		}
	}
	return list
}

// codesToList are those of someCodes with at most so many words.
func codesToList(f impl.Field, most int64) []impl.RankCode {
	return slices.DeleteFunc(someCodes(f), func(c impl.RankCode) bool { return numberOfWords(c) > most })
}

// wholeCode has all words of a length.
func wholeCode(f impl.Field, length int64) impl.RankCode {
	return codeWithLeads(f, length, 1<<length-1, nil)
}

// noCodes are no codes of a field, each for a reason of its own.
func noCodes(f impl.Field) []impl.RankCode {
	last := sizeOf(f) - 1
	list := []impl.RankCode{
		{Field: f, Length: 1, Rows: [][]int64{{0}}},
		{Field: f, Length: 1, Rows: [][]int64{{1}, {1}}},
		{Field: f, Length: 2, Rows: [][]int64{{0, 1}, {1, 0}}},
		{Field: f, Length: 2, Rows: [][]int64{{1, last}, {0, 1}}},
		{Field: f, Length: 2, Rows: [][]int64{{1, 0}, {1, 1}}},
		{Field: f, Length: 2, Rows: [][]int64{{1, 0}, {0, 0}}},
		{Field: f, Length: 2, Rows: [][]int64{{0, 0}, {0, 1}}},
		{Field: f, Length: 2, Rows: [][]int64{{1, 0}, {0, 1}, {0, 0}}},
		{Field: f, Length: 2, Rows: [][]int64{{1}}},
		{Field: f, Length: 2, Rows: [][]int64{{1, 0, 0}}},
		{Field: f, Length: 2, Rows: [][]int64{{1, 0}, {}}},
		{Field: f, Length: 2, Rows: [][]int64{nil}},
		{Field: f, Length: 5, Rows: [][]int64{{1, 0, 0, 0, 0}, {0, 0, 1, 1, 0}, {0, 0, 0, 1, 1}}},
		{Field: f, Length: 5, Rows: make([][]int64, 11)},
	}
	if f.Degree > 1 {
		list = append(list, impl.RankCode{Field: f, Length: 1, Rows: [][]int64{{last}}}, impl.RankCode{Field: f, Length: 3, Rows: [][]int64{{1, 0, 1}, {0, 2, 1}}})
	}
	for _, a := range noElements(f) {
		list = append(list, impl.RankCode{Field: f, Length: 2, Rows: [][]int64{{1, a}}}, impl.RankCode{Field: f, Length: 3, Rows: [][]int64{{1, 0, 0}, {0, 1, a}}})
	}
	for _, length := range noLengths {
		list = append(list, impl.RankCode{Field: f, Length: length}, impl.RankCode{Field: f, Length: length, Rows: [][]int64{{1, 0, 0, 0, 0, 0}}}, impl.RankCode{Field: f, Length: length, Rows: [][]int64{{}}})
	}
	return list
}

// codesOfNoFields would be codes, if they had a field.
func codesOfNoFields() []impl.RankCode {
	var list []impl.RankCode
	for _, f := range noFields {
		list = append(list, impl.RankCode{Field: f, Length: 2}, impl.RankCode{Field: f, Length: 2, Rows: [][]int64{{1, 1}}}, impl.RankCode{Field: f})
	}
	return list
}

// allNoCodes are no codes of any field.
func allNoCodes() []impl.RankCode {
	list := codesOfNoFields()
	for _, f := range allFields() {
		list = append(list, noCodes(f)...)
	}
	return list
}

// weightsOfWords counts words by their ranks.
func weightsOfWords(f impl.Field, length int64, words [][]int64) []int64 {
	numbers := make([]int64, min(length, f.Degree)+1)
	for _, w := range words {
		numbers[rankOfWord(w)]++
	}
	return numbers
}

// coded asks for a code and OK.
func coded(t *testing.T, name string, want impl.RankCode) func(got impl.RankCode, code int64) {
	return func(got impl.RankCode, code int64) {
		t.Helper()
		if fmt.Sprint(got) != fmt.Sprint(want) || code != impl.OK {
			t.Errorf("%s: got %v with the code %d, want %v with 0", name, got, code, want)
		}
	}
}

// refusedCode asks for an error and no code.
func refusedCode(t *testing.T, name string, want int64) func(got impl.RankCode, code int64) {
	return func(got impl.RankCode, code int64) {
		t.Helper()
		if got.Field != (impl.Field{}) || got.Length != 0 || len(got.Rows) != 0 || code != want {
			t.Errorf("%s: got %v with the code %d, want no code with %d", name, got, code, want)
		}
	}
}

// listedWords asks for words and OK.
func listedWords(t *testing.T, name string, want [][]int64) func(got [][]int64, code int64) {
	return func(got [][]int64, code int64) {
		t.Helper()
		is(t, name, fmt.Sprint(want, impl.OK), fmt.Sprint(got, code))
	}
}

// refusedWords asks for an error and no words.
func refusedWords(t *testing.T, name string, want int64) func(got [][]int64, code int64) {
	return func(got [][]int64, code int64) {
		t.Helper()
		is(t, name, fmt.Sprint("[] ", want), fmt.Sprint(got, " ", code))
	}
}

// nearest asks for a distance, words and OK.
func nearest(t *testing.T, name string, wantLeast int64, want [][]int64) func(least int64, got [][]int64, code int64) {
	return func(least int64, got [][]int64, code int64) {
		t.Helper()
		is(t, name, fmt.Sprint(wantLeast, want, impl.OK), fmt.Sprint(least, got, code))
	}
}

// refusedNearest asks for an error, the distance 0 and no words.
func refusedNearest(t *testing.T, name string, want int64) func(least int64, got [][]int64, code int64) {
	return func(least int64, got [][]int64, code int64) {
		t.Helper()
		is(t, name, fmt.Sprint("0 [] ", want), fmt.Sprint(least, got, " ", code))
	}
}
