package tests

import (
	"fmt"
	"slices"
	"testing"

	"loop.example/g01144/impl"
)

// Promise 9: echelon forms, messages and words of codes fit each other.

// checkEchelon asks all functions that are given rows for the echelon form that is known.
func checkEchelon(t *testing.T, f impl.Field, length int64, rows, want [][]int64) {
	t.Helper()
	name := fmt.Sprint(f, length, " rows ", rows)
	listedWords(t, "FieldEchelon"+name, want)(impl.FieldEchelon(f, length, rows))
	value(t, "FieldRank"+name, int64(len(want)))(impl.FieldRank(f, length, rows))
	coded(t, "CodeOf"+name, impl.RankCode{Field: f, Length: length, Rows: want})(impl.CodeOf(f, length, rows))
}

// TestEchelonsOfAllRows lists all sums of multiples of rows, and picks those of the echelon form.
func TestEchelonsOfAllRows(t *testing.T) {
	for f, most := range map[impl.Field][]int{
		{Degree: 1, Poly: 2}:  {0, 4, 4, 3, 2},
		{Degree: 1, Poly: 3}:  {0, 4, 4, 3, 2},
		{Degree: 2, Poly: 7}:  {0, 3, 2, 1},
		{Degree: 3, Poly: 13}: {0, 2, 1},
		{Degree: 4, Poly: 25}: {0, 2, 1},
		{Degree: 5, Poly: 59}: {0, 1, 1},
	} {
		for length := 1; length < len(most); length++ {
			for number := 0; number <= most[length]; number++ {
				for _, elements := range orderedLists(f, length*number) {
					rows := slices.Collect(slices.Chunk(elements, length))
					c := impl.RankCode{Field: f, Length: int64(length), Rows: rows}
					want := rowsOfWords(int64(length), wordsOfCode(c))
					checkEchelon(t, f, int64(length), rows, slices.CompactFunc(want, slices.Equal))
				}
			}
		}
	}
}

// mixedRows are sums of multiples of the rows of a code, of which the last ones give all of them.
func mixedRows(c impl.RankCode, number int) [][]int64 {
	var rows [][]int64
	for i := range number {
		message := mixedWord(c.Field, 6, int64(i*5+number))[:len(c.Rows)]
		if place := number - 1 - i; place < len(c.Rows) {
			clear(message[:place])
			message[place] = max(1, message[place])
		}
		rows = append(rows, wordOf(c, message))
	}
	return rows
}

func TestEchelonsOfMixedRows(t *testing.T) {
	for _, f := range allFields() {
		for _, c := range someCodes(f) {
			is(t, fmt.Sprint("echelon ", c), true, isFieldEchelon(c.Rows))
			checkEchelon(t, f, c.Length, c.Rows, c.Rows)
			for _, number := range []int{len(c.Rows), len(c.Rows) + 2, 10} {
				rows := mixedRows(c, number)
				checkEchelon(t, f, c.Length, rows, c.Rows)
				slices.Reverse(rows)
				checkEchelon(t, f, c.Length, rows, c.Rows)
			}
		}
	}
}

func TestEchelonsThatAreKnown(t *testing.T) {
	f := impl.Field{Degree: 2, Poly: 7}
	checkEchelon(t, f, 2, [][]int64{{2, 3}, {0, 2}, {1, 1}}, [][]int64{{1, 0}, {0, 1}})
	checkEchelon(t, f, 2, [][]int64{{1, 2}, {2, 3}}, [][]int64{{1, 2}})
	checkEchelon(t, f, 3, [][]int64{{0, 0, 0}, {0, 3, 3}, {2, 1, 0}}, [][]int64{{1, 0, 3}, {0, 1, 1}})
	checkEchelon(t, f, 5, [][]int64{{0, 0, 0, 2, 1}}, [][]int64{{0, 0, 0, 1, 3}})
	for _, f := range allFields() {
		checkEchelon(t, f, 3, nil, nil)
		checkEchelon(t, f, 3, make10(make([]int64, 3)), nil)
		checkEchelon(t, f, 1, make10([]int64{sizeOf(f) - 1}), [][]int64{{1}})
		checkEchelon(t, f, 5, [][]int64{{0, 0, 0, 0, 1}, {0, 0, 0, 1, 1}, {0, 0, 1, 1, 1}, {0, 1, 1, 1, 1}, {1, 1, 1, 1, 1}}, wholeCode(f, 5).Rows)
	}
}

// make10 repeats a row as often as there can be rows.
func make10(r []int64) [][]int64 {
	return slices.Repeat([][]int64{r}, 10)
}

// refuseRows asks all functions that are given rows.
func refuseRows(t *testing.T, name string, want int64, f impl.Field, length int64, rows [][]int64) {
	t.Helper()
	refusedWords(t, name+" FieldEchelon", want)(impl.FieldEchelon(f, length, rows))
	refused(t, name+" FieldRank", want)(impl.FieldRank(f, length, rows))
	refusedCode(t, name+" CodeOf", want)(impl.CodeOf(f, length, rows))
}

func TestRowsThatAreNone(t *testing.T) {
	for _, f := range allFields() {
		for _, length := range noLengths {
			for _, rows := range [][][]int64{nil, {{}}, {{1}}, {{1, 0, 0, 0, 0, 0}}, {{1, 0, 0, 0, 0, 0, 0}}} {
				refuseRows(t, fmt.Sprint(f, " length ", length, rows), impl.ErrRange, f, length, rows)
			}
		}
		for length := int64(1); length <= 5; length++ {
			good, short, long := make([]int64, length), make([]int64, length-1), make([]int64, length+1)
			refuseRows(t, fmt.Sprint(f, " 11 rows"), impl.ErrRange, f, length, append(make10(good), good))
			for _, bad := range append(noElementAt(f, length), short, long) {
				name := fmt.Sprint(f, length, " row ", bad)
				refuseRows(t, name, impl.ErrRange, f, length, [][]int64{bad})
				refuseRows(t, name, impl.ErrRange, f, length, [][]int64{good, bad})
				refuseRows(t, name, impl.ErrRange, f, length, [][]int64{bad, good, good})
				refuseRows(t, name, impl.ErrRange, f, length, append(make10(good)[:9], bad))
			}
		}
	}
}

// noElementAt are lists of the length with one number, at any place, that is no element.
func noElementAt(f impl.Field, length int64) [][]int64 {
	var list [][]int64
	for i, a := range noElements(f) {
		w := mixedWord(f, length, int64(i))
		w[int64(i)%length] = a
		list = append(list, w)
	}
	return list
}

func TestNoFieldsForRows(t *testing.T) {
	for _, f := range noFields {
		for _, length := range []int64{0, 1, 2, -1, 6} {
			for _, rows := range [][][]int64{nil, {{}}, {{1}}, {{1, 1}}, {{-1, 99}}, make([][]int64, 11)} {
				refuseRows(t, fmt.Sprint("no field ", f, length, rows), impl.ErrInvalid, f, length, rows)
			}
		}
	}
}

func TestValidCode(t *testing.T) {
	for _, f := range allFields() {
		for _, c := range someCodes(f) {
			is(t, fmt.Sprint("ValidCode ", c), true, impl.ValidCode(c))
		}
		for _, c := range noCodes(f) {
			is(t, fmt.Sprint("ValidCode ", c), false, impl.ValidCode(c))
		}
	}
	for _, c := range codesOfNoFields() {
		is(t, fmt.Sprint("ValidCode ", c), false, impl.ValidCode(c))
	}
}

// TestCodesAreWhatEchelonsAre takes all lists of two rows.
func TestCodesAreWhatEchelonsAre(t *testing.T) {
	for f, length := range map[impl.Field]int{{Degree: 1, Poly: 3}: 4, {Degree: 2, Poly: 7}: 2, {Degree: 3, Poly: 11}: 2} {
		for _, elements := range orderedLists(f, 2*length) {
			rows := slices.Collect(slices.Chunk(elements, length))
			is(t, fmt.Sprint("ValidCode ", f, rows), isFieldEchelon(rows), impl.ValidCode(impl.RankCode{Field: f, Length: int64(length), Rows: rows}))
		}
	}
}

func TestSameCode(t *testing.T) {
	for _, f := range allFields() {
		list := slices.Concat(codesToList(f, 40), noCodes(f), codesOfNoFields()[:9])
		for i, c := range list {
			copied := impl.RankCode{Field: c.Field, Length: c.Length}
			for _, r := range c.Rows {
				copied.Rows = append(copied.Rows, slices.Clone(r))
			}
			is(t, fmt.Sprint("SameCode ", c), true, impl.SameCode(c, copied))
			other := list[(i*7+1)%len(list)]
			is(t, fmt.Sprint("SameCode ", c, other), fmt.Sprint(c) == fmt.Sprint(other), impl.SameCode(c, other))
		}
	}
}

func TestCodesThatDifferAtOnePlace(t *testing.T) {
	c := impl.RankCode{Field: impl.Field{Degree: 2, Poly: 7}, Length: 2, Rows: [][]int64{{1, 2}, {3, 0}}}
	for _, d := range []impl.RankCode{
		{Field: impl.Field{Degree: 3, Poly: 7}, Length: 2, Rows: c.Rows},
		{Field: impl.Field{Degree: 2, Poly: 6}, Length: 2, Rows: c.Rows},
		{Field: c.Field, Length: 3, Rows: c.Rows},
		{Field: c.Field, Length: 2},
		{Field: c.Field, Length: 2, Rows: [][]int64{{1, 2}}},
		{Field: c.Field, Length: 2, Rows: [][]int64{{1, 2}, {3, 0}, {}}},
		{Field: c.Field, Length: 2, Rows: [][]int64{{1, 2}, {3}}},
		{Field: c.Field, Length: 2, Rows: [][]int64{{1, 2}, {3, 0, 0}}},
		{Field: c.Field, Length: 2, Rows: [][]int64{{1, 2}, {3, 1}}},
		{Field: c.Field, Length: 2, Rows: [][]int64{{0, 2}, {3, 0}}},
		{Field: c.Field, Length: 2, Rows: [][]int64{{3, 0}, {1, 2}}},
	} {
		is(t, fmt.Sprint("SameCode ", d), "false false true", fmt.Sprint(impl.SameCode(c, d), impl.SameCode(d, c), impl.SameCode(d, d)))
	}
}

func TestWordsOfCodes(t *testing.T) {
	for _, f := range allFields() {
		for _, c := range codesToList(f, 1024) {
			listedWords(t, fmt.Sprint("words of ", c), wordsOfCode(c))(impl.WordsOf(c))
		}
	}
}

func TestMessagesAndWords(t *testing.T) {
	for _, f := range allFields() {
		for _, c := range someCodes(f) {
			messages := [][]int64{make([]int64, len(c.Rows)), slices.Repeat([]int64{sizeOf(f) - 1}, len(c.Rows))}
			if numberOfWords(c) <= 64 {
				messages = orderedLists(f, len(c.Rows))
			}
			for seed := int64(1); seed <= 4; seed++ {
				messages = append(messages, mixedWord(f, 6, seed)[:len(c.Rows)])
			}
			for _, message := range messages {
				w := wordOf(c, message)
				listed(t, fmt.Sprint(c, " word of ", message), w)(impl.EncodeWith(c, message))
				listed(t, fmt.Sprint(c, " message of ", w), message)(impl.MessageOf(c, w))
			}
		}
	}
}

// TestWordsOutsideOfCodes looks at all words of the length.
func TestWordsOutsideOfCodes(t *testing.T) {
	for f, length := range map[impl.Field]int{{Degree: 1, Poly: 2}: 4, {Degree: 2, Poly: 7}: 3, {Degree: 3, Poly: 11}: 2, {Degree: 5, Poly: 61}: 1} {
		for _, c := range allCodes(f, int64(length)) {
			messages := map[string][]int64{}
			for _, message := range orderedLists(f, len(c.Rows)) {
				messages[fmt.Sprint(wordOf(c, message))] = message
			}
			for _, w := range orderedLists(f, length) {
				name := fmt.Sprint(c, " message of ", w)
				if message, is := messages[fmt.Sprint(w)]; is {
					listed(t, name, message)(impl.MessageOf(c, w))
				} else {
					refusedList(t, name, impl.ErrNotFound)(impl.MessageOf(c, w))
				}
			}
		}
	}
}

func TestCodesWithoutRows(t *testing.T) {
	for _, f := range allFields() {
		for length := int64(1); length <= 5; length++ {
			c, zero := impl.RankCode{Field: f, Length: length}, make([]int64, length)
			is(t, fmt.Sprint("valid ", c), true, impl.ValidCode(c))
			listed(t, fmt.Sprint("word of ", c), zero)(impl.EncodeWith(c, nil))
			listed(t, fmt.Sprint("message of ", c), nil)(impl.MessageOf(c, zero))
			listedWords(t, fmt.Sprint("words of ", c), [][]int64{zero})(impl.WordsOf(c))
			refusedList(t, fmt.Sprint("word of ", c), impl.ErrRange)(impl.EncodeWith(c, []int64{0}))
			zero[length-1] = 1
			refusedList(t, fmt.Sprint("message of ", c), impl.ErrNotFound)(impl.MessageOf(c, zero))
		}
	}
}

func TestCodesOfAllWords(t *testing.T) {
	for _, f := range allFields() {
		for length := int64(1); length <= 5; length++ {
			c, w := wholeCode(f, length), mixedWord(f, length, 9)
			listed(t, fmt.Sprint("word of ", c), w)(impl.EncodeWith(c, w))
			listed(t, fmt.Sprint("message of ", c), w)(impl.MessageOf(c, w))
			if f.Degree*length <= 12 {
				listedWords(t, fmt.Sprint("words of ", c), orderedLists(f, int(length)))(impl.WordsOf(c))
			}
		}
	}
}

func TestAsManyWordsAsTheLimit(t *testing.T) {
	for _, c := range []impl.RankCode{
		mixedCode(impl.Field{Degree: 4, Poly: 19}, 5, 13, 1),
		mixedCode(impl.Field{Degree: 4, Poly: 31}, 3, 7, 2),
		mixedCode(impl.Field{Degree: 3, Poly: 13}, 5, 23, 3),
		mixedCode(impl.Field{Degree: 3, Poly: 11}, 4, 15, 4),
	} {
		is(t, fmt.Sprint("number ", c), 4096, numberOfWords(c))
		listedWords(t, fmt.Sprint("words of ", c), wordsOfCode(c))(impl.WordsOf(c))
	}
	for _, c := range codesOverTheLimit() {
		refusedWords(t, fmt.Sprint("words of ", c), impl.ErrLimit)(impl.WordsOf(c))
	}
	// There is no limit for the message of one word.
	c := mixedCode(impl.Field{Degree: 5, Poly: 37}, 5, 15, 3)
	listed(t, fmt.Sprint("word of ", c), wordOf(c, []int64{31, 2, 7, 9}))(impl.EncodeWith(c, []int64{31, 2, 7, 9}))
	listed(t, fmt.Sprint("message of ", c), []int64{31, 2, 7, 9})(impl.MessageOf(c, wordOf(c, []int64{31, 2, 7, 9})))
}

// codesOverTheLimit have more words than can be listed.
func codesOverTheLimit() []impl.RankCode {
	return []impl.RankCode{
		mixedCode(impl.Field{Degree: 5, Poly: 37}, 3, 7, 1),
		mixedCode(impl.Field{Degree: 5, Poly: 61}, 5, 22, 2),
		mixedCode(impl.Field{Degree: 5, Poly: 47}, 5, 31, 3),
		mixedCode(impl.Field{Degree: 4, Poly: 25}, 5, 29, 4),
		mixedCode(impl.Field{Degree: 4, Poly: 19}, 4, 15, 5),
		mixedCode(impl.Field{Degree: 3, Poly: 11}, 5, 31, 6),
	}
}

func TestMessagesThatAreNone(t *testing.T) {
	for _, f := range allFields() {
		for _, c := range codesToList(f, 1000) {
			k := int64(len(c.Rows))
			lists := [][]int64{make([]int64, k+1), make([]int64, k+5)}
			if k > 0 {
				lists = append(append(lists, make([]int64, k-1)), noElementAt(f, k)...)
			}
			for _, message := range lists {
				refusedList(t, fmt.Sprint(c, " message ", message), impl.ErrRange)(impl.EncodeWith(c, message))
			}
		}
	}
}

func TestNoWordsOfTheLength(t *testing.T) {
	for _, f := range allFields() {
		for _, c := range codesToList(f, 1000) {
			for _, w := range append(noElementAt(f, c.Length), make([]int64, c.Length-1), make([]int64, c.Length+1), nil) {
				refusedList(t, fmt.Sprint(c, " word ", w), impl.ErrRange)(impl.MessageOf(c, w))
			}
		}
	}
}

func TestMessagesAndWordsOfNoCodes(t *testing.T) {
	for _, c := range allNoCodes() {
		refusedWords(t, fmt.Sprint("words of ", c), impl.ErrInvalid)(impl.WordsOf(c))
		for _, w := range [][]int64{{}, {0}, {1, 1}, {-1}, {0, 0, 0, 0, 0, 0}} {
			refusedList(t, fmt.Sprint(c, " word of ", w), impl.ErrInvalid)(impl.EncodeWith(c, w))
			refusedList(t, fmt.Sprint(c, " message of ", w), impl.ErrInvalid)(impl.MessageOf(c, w))
		}
	}
}
