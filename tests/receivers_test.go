package tests

import (
	"fmt"
	"slices"
	"strings"
	"testing"

	"loop.example/g01144/impl"
)

// Promise 21: unspoilt packets tell the data of the source as soon as their rank is full, and planned deeds come to that.

func TestTheExampleOfChapter8(t *testing.T) {
	v := gatherOf(2, 0, 1, 1, 3)
	listed(t, "packets", []int64{5, 14})(impl.SourceRows(v))
	plan, code := impl.FinishDeeds(v, nil)
	is(t, "plan", "forget 1, send 0 1 1, deliver 0, send 0 1 2, deliver 0, save 1 0", fmt.Sprint(textsOfDeeds(plan), " ", code))
	listed(t, "data", []int64{1, 3})(impl.DataAfter(v, plan, 1))
}

// checkUnspoilt asks for no data but those of the source, and for these if the rank is full.
func checkUnspoilt(t *testing.T, v impl.Gather, deeds []impl.Deed) int {
	t.Helper()
	full := 0
	for station := range stationsOf(v) {
		name := fmt.Sprint(v, " behind ", textsOfDeeds(deeds), " at ", station)
		value(t, name+" spoilt", 0)(impl.SpoiltAfter(v, deeds, station))
		rank, code := impl.RankAfter(v, deeds, station)
		is(t, name+" code", impl.OK, code)
		if rank == v.Packets {
			full++
			listed(t, name+" data", v.Data)(impl.DataAfter(v, deeds, station))
		} else {
			refusedList(t, name+" data", impl.ErrNotFound)(impl.DataAfter(v, deeds, station))
		}
	}
	return full
}

func TestUnspoiltPacketsTellTheData(t *testing.T) {
	full := 0
	for i, v := range someGathers() {
		for _, number := range []int64{0, 5, 20, 60, 150} {
			deeds := drawnDeeds(v, int64(i)+number, number, false)
			full += checkUnspoilt(t, v, deeds)
			checkAll(t, v, deeds)
		}
	}
	is(t, "there are some with full ranks", true, full > 800)
}

// TestKnowledgeGrows looks behind each deed.
func TestKnowledgeGrows(t *testing.T) {
	for _, v := range []impl.Gather{gatherOf(1, 0, 1, 1), gatherOf(2, 1, 1, 0, 0), gatherOf(6, 3, 3, 63, 1, 40, 7), gatherOf(5, 2, 3, 9, 9, 9), gatherOf(1, 1, 2, 1, 0, 1, 0)} {
		for seed := range int64(3) {
			deeds := drawnDeeds(v, seed+60, 70, false)
			for number := range deeds {
				checkUnspoilt(t, v, deeds[:number])
				checkAll(t, v, deeds[:number])
			}
		}
	}
}

// sequences calls try with all lists of at most so many deeds.
func sequences(deeds []impl.Deed, most int, try func(list []impl.Deed)) {
	var grow func(list []impl.Deed)
	grow = func(list []impl.Deed) {
		try(list)
		if len(list) < most {
			for _, d := range deeds {
				grow(append(slices.Clone(list), d))
			}
		}
	}
	grow([]impl.Deed{})
}

func TestAllShortSequencesOfUnspoiltPackets(t *testing.T) {
	for _, c := range []struct {
		v     impl.Gather
		deeds string
		most  int
	}{
		{gatherOf(1, 0, 1, 1), "send 0 1 1, send 0 1 0, send 1 1 1, deliver 0, copy 0, drop 0, save 1, crash 1, forget 1, forget 0", 4},
		{gatherOf(2, 1, 1, 3), "send 0 1 1, send 1 2 1, send 0 2 1, deliver 0, deliver 1, drop 0, crash 2, save 2", 4},
		{gatherOf(2, 0, 1, 1, 3), "send 0 1 1, send 0 1 2, send 0 1 3, deliver 0, deliver 1, copy 0", 5},
		{gatherOf(1, 0, 2, 1, 1), "send 0 1 3, send 0 2 2, send 1 2 1, deliver 0, copy 1, forget 1", 5},
	} {
		sequences(deedsOf(c.deeds), c.most, func(deeds []impl.Deed) {
			checkUnspoilt(t, c.v, deeds)
			name := fmt.Sprint(c.v, " behind ", textsOfDeeds(deeds))
			m := modelAfter(c.v, deeds)
			checkPlant(t, name, m, deeds)
			checkPlan(t, name, m, deeds)
		})
	}
}

// TestDataBehindEchelonForms have packets that are mixed in all ways in which they have the full rank.
func TestDataBehindEchelonForms(t *testing.T) {
	for packets := int64(1); packets <= 4; packets++ {
		for _, v := range []impl.Gather{gatherOf(6, 0, 1, drawnData(packets, 6, 1)...), gatherOf(1, 1, 2, drawnData(packets, 1, 2)...), gatherOf(3, 3, 3, slices.Repeat([]int64{5}, int(packets))...)} {
			found := 0
			for _, mixes := range matricesOf(packets, packets) {
				if packets == 4 && sumOf(mixes.Rows, 11)*7%13 > 1 {
					continue
				}
				station := stationsOf(v) - 1
				var texts []string
				for _, chosen := range mixes.Rows {
					if chosen > 0 {
						texts = append(texts, fmt.Sprint("send 0 ", station, " ", chosen), "deliver 0")
					}
				}
				deeds := deedsOf(strings.Join(texts, ", "))
				name := fmt.Sprint(v, " mixed by ", mixes)
				rank := dimensionOf(sumsOf(mixes))
				value(t, name, rank)(impl.RankAfter(v, deeds, station))
				if rank == packets {
					found++
					listed(t, name, v.Data)(impl.DataAfter(v, deeds, station))
				} else {
					refusedList(t, name, impl.ErrNotFound)(impl.DataAfter(v, deeds, station))
				}
			}
			is(t, "there are some with a full rank", true, found > 0)
		}
	}
}

// TestTheSourceKnowsItsData as long as it keeps its packets.
func TestTheSourceKnowsItsData(t *testing.T) {
	for _, v := range someGathers() {
		listed(t, fmt.Sprint("source of ", v), v.Data)(impl.DataAfter(v, nil, 0))
		value(t, fmt.Sprint("source of ", v), v.Packets)(impl.RankAfter(v, nil, 0))
		refusedList(t, fmt.Sprint("source of ", v), impl.ErrNotFound)(impl.DataAfter(v, deedsOf("forget 0"), 0))
		value(t, fmt.Sprint("source of ", v), 0)(impl.RankAfter(v, deedsOf("forget 0"), 0))
		listed(t, fmt.Sprint("source of ", v), v.Data)(impl.DataAfter(v, deedsOf("forget 0, crash 0"), 0))
		refusedList(t, fmt.Sprint("source of ", v), impl.ErrNotFound)(impl.DataAfter(v, deedsOf("forget 0, save 0, crash 0"), 0))
		for station := int64(1); station < stationsOf(v); station++ {
			refusedList(t, fmt.Sprint(v, station), impl.ErrNotFound)(impl.DataAfter(v, nil, station))
			value(t, fmt.Sprint(v, station), 0)(impl.RankAfter(v, nil, station))
		}
	}
}

// lessons are the texts of the deeds by which a station gets all packets.
func lessons(v impl.Gather, station int64) string {
	texts := []string{fmt.Sprint("forget ", station)}
	for i := range v.Packets {
		texts = append(texts, fmt.Sprint("send 0 ", station, " ", 1<<i), "deliver 0")
	}
	return strings.Join(append(texts, fmt.Sprint("save ", station)), ", ")
}

// TestPlansThatAreKnown asks for texts.
func TestPlansThatAreKnown(t *testing.T) {
	v := gatherOf(2, 1, 2, 1, 3)
	two, three := lessons(v, 2), lessons(v, 3)
	for deeds, want := range map[string]string{
		"":                             two + ", " + three,
		"send 0 1 1, send 0 2 1":       "drop 0, drop 0, " + two + ", " + three,
		"forget 0":                     "crash 0, " + two + ", " + three,
		"save 0, forget 0, send 0 2 1": "crash 0, " + two + ", " + three,
		"send 0 3 1, forget 0":         "drop 0, crash 0, " + two + ", " + three,
		"forget 0, crash 0, save 0":    two + ", " + three,
		two:                            three,
		three:                          two,
		two + ", " + three:             "",
		two + ", " + three + ", forget 0, forget 1":                       "crash 0",
		two + ", " + three + ", send 2 1 1, copy 0":                       "drop 0",
		two + ", " + three + ", forget 2, crash 2":                        "",
		two + ", " + three + ", forget 3, save 3, crash 3":                three,
		"send 0 2 3, send 0 2 1, deliver 0, deliver 0, " + three:          "",
		"send 0 2 3, deliver 0, " + three:                                 two,
		"send 0 2 1, send 0 2 2, spoil 0 4, deliver 0, deliver 0":         two + ", " + three,
		"send 0 2 1, spoil 0 3, deliver 0, " + three:                      two,
		two + ", send 0 2 1, spoil 0 4, deliver 0, " + three:              two,
		two + ", send 0 1 1, spoil 0 4, deliver 0, " + three:              "",
		"send 0 1 1, spoil 0 8, deliver 0, send 1 3 1, deliver 0, " + two: three,
	} {
		plan, code := impl.FinishDeeds(v, deedsOf(deeds))
		is(t, "plan behind "+deeds, want+" 0", fmt.Sprint(textsOfDeeds(plan), " ", code))
		checkAll(t, v, deedsOf(deeds))
	}
}

// TestPlansWithAFullWire have as many parcels as there can be.
func TestPlansWithAFullWire(t *testing.T) {
	for i, v := range someGathers() {
		for _, parcels := range []int{1, 2, 11, 12, 13} {
			text := strings.TrimSuffix(strings.Repeat(fmt.Sprint("send 0 ", stationsOf(v)-1, " 1, "), parcels), ", ")
			checkAll(t, v, deedsOf(text))
			if i%3 == 0 {
				checkAll(t, v, deedsOf(text+", forget 0"))
			}
		}
	}
}

// TestPlansUpToTheLimit have as many deeds, together with those before, as there can be, and more.
func TestPlansUpToTheLimit(t *testing.T) {
	for _, v := range someGathers() {
		length := int(v.Receivers * (2 + 2*v.Packets))
		for _, begin := range []string{"", "save 0", "forget 0", "send 0 1 1", "send 0 1 1, send 0 1 1, forget 0"} {
			more := 0
			if begin != "" && begin != "save 0" {
				more = len(deedsOf(begin))
			}
			for _, number := range []int{300 - length - more - 1, 300 - length - more, 300 - length - more + 1, 300} {
				// Deeds that are left out count like others.
				for _, filler := range []string{"save 1", "drop 20"} {
					deeds := slices.Concat(deedsOf(begin), slices.Repeat(deedsOf(filler), number-len(deedsOf(begin))))
					plan, code := impl.FinishDeeds(v, deeds)
					want := fmt.Sprint(length+more, impl.OK)
					if number+length+more > 300 {
						want = fmt.Sprint(0, impl.ErrLimit)
					}
					is(t, fmt.Sprint(v, " plan behind ", number, " deeds"), want, fmt.Sprint(len(plan), code))
				}
			}
		}
	}
	v := gatherOf(3, 0, 3, 1, 2, 3, 4)
	known := slices.Concat(deedsOf(lessons(v, 1)), deedsOf(lessons(v, 2)), deedsOf(lessons(v, 3)))
	checkAll(t, v, slices.Concat(known, slices.Repeat(deedsOf("save 1"), 300-len(known))))
	checkAll(t, v, slices.Concat(known, slices.Repeat(deedsOf("save 1"), 299-len(known)), deedsOf("forget 0")))
	checkAll(t, v, slices.Concat(known, slices.Repeat(deedsOf("save 1"), 298-len(known)), deedsOf("forget 0")))
}

// TestSourcesThatHaveSavedTooLittle come ahead of plans that are too long.
func TestSourcesThatHaveSavedTooLittle(t *testing.T) {
	for _, v := range someGathers() {
		for _, deeds := range []string{"forget 0, save 0", "save 0, forget 0, save 0", "forget 0, save 0, crash 0", "send 0 1 1, forget 0, save 0, deliver 0", lessons(v, 1) + ", forget 0, save 0"} {
			list := deedsOf(deeds)
			refusedDeeds(t, fmt.Sprint(v, deeds), impl.ErrState)(impl.FinishDeeds(v, list))
			refusedDeeds(t, fmt.Sprint(v, deeds), impl.ErrState)(impl.FinishDeeds(v, slices.Concat(list, slices.Repeat(deedsOf("drop 0"), 300-len(list)))))
			refusedDeeds(t, fmt.Sprint(v, deeds), impl.ErrRange)(impl.FinishDeeds(v, slices.Concat(list, slices.Repeat(deedsOf("drop 0"), 301-len(list)))))
		}
		for _, deeds := range []string{"forget 0, crash 0, save 0", "forget 0", "save 0, forget 0", "save 0", "forget 1, save 1"} {
			checkAll(t, v, deedsOf(deeds))
		}
	}
}
