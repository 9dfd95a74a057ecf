package tests

import (
	"fmt"
	"math/bits"
	"slices"
	"strings"
	"testing"

	"loop.example/g01144/impl"
)

// Promise 22, for plants: parcels and crashes do what they should, and what has been spoilt is bounded.

func TestPlantsBehindAnyDeeds(t *testing.T) {
	counts := map[int64]int{}
	for i, v := range someGathers() {
		for _, number := range []int64{0, 1, 3, 10, 30, 80, 200} {
			m := checkAll(t, v, drawnDeeds(v, int64(i)+number, number, true))
			for _, code := range m.codes {
				counts[code]++
			}
			counts[impl.OK] += int(m.done)
			for station := range stationsOf(v) {
				if _, code := m.data(station); code != impl.OK {
					counts[code]++
				}
			}
		}
	}
	for _, code := range []int64{impl.OK, impl.ErrRange, impl.ErrState, impl.ErrLimit, impl.ErrProof, impl.ErrNotFound} {
		is(t, fmt.Sprint("there are some with ", impl.CodeName(code)), true, counts[code] > 100)
	}
}

// TestPlantsBehindEachDeed looks at each step.
func TestPlantsBehindEachDeed(t *testing.T) {
	for _, v := range []impl.Gather{gatherOf(1, 0, 1, 0), gatherOf(1, 3, 1, 1, 0), gatherOf(6, 2, 2, 5, 63, 5, 0), gatherOf(3, 0, 3, 7, 7, 1), gatherOf(6, 1, 1, 33)} {
		for seed := range int64(4) {
			deeds := drawnDeeds(v, seed+500, 90, true)
			for number := range deeds {
				checkAll(t, v, deeds[:number])
			}
		}
	}
}

func TestAllShortSequencesOfSpoiltPackets(t *testing.T) {
	for _, c := range []struct {
		v     impl.Gather
		deeds string
		most  int
	}{
		{gatherOf(1, 0, 1, 1), "send 0 1 1, deliver 0, copy 0, spoil 0 1, spoil 0 2, spoil 0 3, save 1, crash 1", 4},
		{gatherOf(1, 1, 1, 0), "send 0 1 1, send 1 2 1, spoil 0 1, deliver 0, copy 0, crash 2, forget 1", 4},
		{gatherOf(1, 0, 1, 0, 1), "send 0 1 1, send 0 1 2, spoil 0 1, spoil 0 4, spoil 0 7, deliver 0", 5},
	} {
		sequences(deedsOf(c.deeds), c.most, func(deeds []impl.Deed) {
			name := fmt.Sprint(c.v, " behind ", textsOfDeeds(deeds))
			m := modelAfter(c.v, deeds)
			checkPlant(t, name, m, deeds)
			checkStations(t, name, m, deeds)
		})
	}
}

// TestStationsInEveryOrder have all lists of what can happen to one of them and to the source.
func TestStationsInEveryOrder(t *testing.T) {
	v := gatherOf(2, 0, 1, 1, 2)
	sequences(deedsOf("save 1, crash 1, forget 1, copy 0, copy 1"), 5, func(deeds []impl.Deed) {
		deeds = slices.Concat(deedsOf("send 0 1 1, send 0 1 2"), deeds)
		m := modelAfter(v, deeds)
		checkPlant(t, textsOfDeeds(deeds), m, deeds)
	})
	sequences(deedsOf("save 0, crash 0, forget 0, send 0 1 1, deliver 0"), 5, func(deeds []impl.Deed) {
		checkAll(t, v, deeds)
	})
}

// plantIs asks for what is, as text, and for the number of deeds that have been done.
func plantIs(t *testing.T, v impl.Gather, deeds, want string, wantDone int64) {
	t.Helper()
	plant, done, code := impl.PlantAfter(v, deedsOf(deeds))
	is(t, "plant behind "+deeds, fmt.Sprint(want, " ", wantDone, impl.OK), fmt.Sprint(plant, " ", done, code))
}

func TestPlantsThatAreKnown(t *testing.T) {
	v := gatherOf(2, 1, 1, 1, 3)
	// The packets are 5 and 14, and their sum is 11.
	plantIs(t, v, "", "{[{[5 14] [5 14]} {[] []} {[] []}] []}", 0)
	plantIs(t, v, "send 0 1 1", "{[{[5 14] [5 14]} {[] []} {[] []}] [{1 5}]}", 1)
	plantIs(t, v, "send 0 1 3, send 0 2 2", "{[{[5 14] [5 14]} {[] []} {[] []}] [{1 11} {2 14}]}", 2)
	plantIs(t, v, "send 0 1 3, send 0 2 2, deliver 0", "{[{[5 14] [5 14]} {[11] []} {[] []}] [{2 14}]}", 3)
	plantIs(t, v, "send 0 1 3, send 0 2 2, deliver 1", "{[{[5 14] [5 14]} {[] []} {[14] []}] [{1 11}]}", 3)
	plantIs(t, v, "send 0 1 3, copy 0, copy 0", "{[{[5 14] [5 14]} {[11] []} {[] []}] [{1 11}]}", 3)
	plantIs(t, v, "send 0 1 3, send 0 1 1, send 0 1 2, deliver 1, deliver 0, deliver 0", "{[{[5 14] [5 14]} {[5 11] []} {[] []}] []}", 6)
	plantIs(t, v, "send 0 1 3, send 0 1 1, deliver 0, deliver 0, send 1 2 3, send 1 2 2", "{[{[5 14] [5 14]} {[11 5] []} {[] []}] [{2 14} {2 5}]}", 6)
	plantIs(t, v, "send 0 1 3, drop 0, deliver 0", "{[{[5 14] [5 14]} {[] []} {[] []}] []}", 2)
	plantIs(t, v, "send 0 1 3, spoil 0 8, deliver 0", "{[{[5 14] [5 14]} {[3] []} {[] []}] []}", 3)
	plantIs(t, v, "send 0 1 3, spoil 0 15, spoil 0 15", "{[{[5 14] [5 14]} {[] []} {[] []}] [{1 11}]}", 3)
	plantIs(t, v, "send 0 1 3, spoil 0 15", "{[{[5 14] [5 14]} {[] []} {[] []}] [{1 4}]}", 2)
	// A packet that becomes 0 is not kept.
	plantIs(t, v, "send 0 1 3, spoil 0 11, deliver 0", "{[{[5 14] [5 14]} {[] []} {[] []}] []}", 3)
	plantIs(t, v, "send 0 1 1, deliver 0, save 1, send 0 1 2, deliver 0, crash 1", "{[{[5 14] [5 14]} {[5] [5]} {[] []}] []}", 6)
	plantIs(t, v, "send 0 1 1, deliver 0, save 1, send 0 1 2, deliver 0", "{[{[5 14] [5 14]} {[5 14] [5]} {[] []}] []}", 5)
	plantIs(t, v, "send 0 1 1, deliver 0, save 1, forget 1", "{[{[5 14] [5 14]} {[] [5]} {[] []}] []}", 4)
	plantIs(t, v, "send 0 1 1, deliver 0, save 1, forget 1, save 1, crash 1", "{[{[5 14] [5 14]} {[] []} {[] []}] []}", 6)
	plantIs(t, v, "send 0 1 1, deliver 0, crash 1", "{[{[5 14] [5 14]} {[] []} {[] []}] []}", 3)
	plantIs(t, v, "send 0 1 1, deliver 0, save 1, forget 1, send 0 1 2, deliver 0, crash 1, send 0 1 3, deliver 0", "{[{[5 14] [5 14]} {[5 11] [5]} {[] []}] []}", 9)
	// The source forgets like all others, and crashes to what it has saved.
	plantIs(t, v, "forget 0", "{[{[] [5 14]} {[] []} {[] []}] []}", 1)
	plantIs(t, v, "forget 0, crash 0", "{[{[5 14] [5 14]} {[] []} {[] []}] []}", 2)
	plantIs(t, v, "forget 0, save 0, crash 0", "{[{[] []} {[] []} {[] []}] []}", 3)
	plantIs(t, v, "send 0 1 1, forget 0, save 0, send 0 1 1, deliver 0", "{[{[] []} {[5] []} {[] []}] []}", 4)
}

// refusedIs asks for the error of the last one of some deeds, which is the only one that is left out.
func refusedIs(t *testing.T, v impl.Gather, deeds string, want int64) {
	t.Helper()
	list := deedsOf(deeds)
	place, fault, code := impl.RefusedDeed(v, list)
	is(t, fmt.Sprint(v, " refused of ", deeds), fmt.Sprint(len(list)-1, want, impl.OK), fmt.Sprint(place, fault, code))
	refusedPlace(t, fmt.Sprint(v, " refused ahead of the last of ", deeds), impl.ErrNotFound)(impl.RefusedDeed(v, list[:len(list)-1]))
	// What is left out changes nothing.
	before, done, _ := impl.PlantAfter(v, list[:len(list)-1])
	after, same, _ := impl.PlantAfter(v, list)
	is(t, fmt.Sprint(v, " behind ", deeds), fmt.Sprint(before, done), fmt.Sprint(after, same))
}

func TestDeedsThatAreLeftOut(t *testing.T) {
	full := strings.TrimSuffix(strings.Repeat("send 0 1 1, ", 12), ", ")
	for _, v := range someGathers() {
		number := stationsOf(v)
		columns := 1 << (v.Packets + v.Payload)
		for _, station := range []any{number, number + 1, 7, 9999} {
			for _, deed := range []string{"send % 1 1", "send % 1 0", "send 0 % 1", "send 0 % 0", "send % % 1", "save %", "crash %", "forget %"} {
				refusedIs(t, v, strings.ReplaceAll(deed, "%", fmt.Sprint(station)), impl.ErrRange)
			}
		}
		for _, deed := range []string{
			"send 0 0 1", "send 0 0 0", "send 1 1 0", "send 1 1 1", "send 1 0 1", "send 1 0 0", "send 1 " + fmt.Sprint(number-1) + " 1",
			fmt.Sprint("send 0 1 ", int64(1)<<v.Packets), fmt.Sprint("send 0 1 ", int64(1)<<v.Packets+1), "send 0 1 1024", "send 0 1 9999",
			"deliver 0", "copy 0", "drop 0", "spoil 0 1", "spoil 0 0", "deliver 9999",
			"forget 0, send 0 1 1", "send 0 1 1, deliver 0, send 1 0 1", "send 0 1 1, deliver 0, send 1 1 1",
		} {
			refusedIs(t, v, deed, impl.ErrRange)
		}
		for _, kind := range []string{"deliver", "copy", "drop"} {
			refusedIs(t, v, "send 0 1 1, "+kind+" 1", impl.ErrRange)
			refusedIs(t, v, "send 0 1 1, send 0 1 1, drop 0, "+kind+" 1", impl.ErrRange)
			refusedIs(t, v, "send 0 1 1, send 0 1 1, deliver 1, "+kind+" 1", impl.ErrRange)
			refusedIs(t, v, full+", "+kind+" 12", impl.ErrRange)
			is(t, "the last parcel", "0 0 6", fmt.Sprint(impl.RefusedDeed(v, deedsOf(full+", "+kind+" 11"))))
		}
		for _, spoil := range []string{"spoil 0 0", "spoil 1 1", "spoil 1 0", fmt.Sprint("spoil 0 ", columns), fmt.Sprint("spoil 0 ", columns+1), "spoil 0 1024", "spoil 0 9999", "spoil 12 1"} {
			refusedIs(t, v, "send 0 1 1, "+spoil, impl.ErrRange)
		}
		for _, columns := range []int{1, columns / 2, columns - 1} {
			is(t, "columns that are there", "0 0 6", fmt.Sprint(impl.RefusedDeed(v, deedsOf(fmt.Sprint("send 0 1 1, spoil 0 ", columns)))))
		}
		refusedIs(t, v, "send 0 1 0", impl.ErrState)
		refusedIs(t, v, "forget 0, send 0 1 0", impl.ErrState)
		if number > 2 {
			refusedIs(t, v, "send 1 2 0", impl.ErrState)
		}
		// A full wire comes last.
		refusedIs(t, v, full+", send 0 1 1", impl.ErrLimit)
		refusedIs(t, v, full+fmt.Sprint(", send 0 ", number-1, " ", int64(1)<<v.Packets-1), impl.ErrLimit)
		refusedIs(t, v, full+", send 0 1 0", impl.ErrState)
		refusedIs(t, v, full+fmt.Sprint(", send 0 1 ", int64(1)<<v.Packets), impl.ErrRange)
		refusedIs(t, v, full+", send 0 0 1", impl.ErrRange)
		is(t, "a wire that is full again", "0 0 6", fmt.Sprint(impl.RefusedDeed(v, deedsOf(full+", drop 5, send 0 1 1, deliver 11, send 0 1 1, copy 11"))))
		refusedIs(t, v, full+", drop 5, send 0 1 1, send 0 1 1", impl.ErrLimit)
	}
}

// TestOnlyTheFirstRefusedDeedIsTold has several ones, in the middle of others.
func TestOnlyTheFirstRefusedDeedIsTold(t *testing.T) {
	v := gatherOf(2, 0, 1, 1, 3)
	for deeds, want := range map[string]string{
		"":                                   "0 0 6",
		"save 0":                             "0 0 6",
		"drop 0":                             "0 2 0",
		"send 0 1 0":                         "0 4 0",
		"save 0, send 0 1 0, drop 0, save 1": "1 4 0",
		"save 0, drop 0, send 0 1 0, save 1": "1 2 0",
		"send 0 1 1, deliver 0, deliver 0, save 1, send 0 1 0": "2 2 0",
		"save 2, save 1, save 2":                               "0 2 0",
	} {
		is(t, "refused of "+deeds, want, fmt.Sprint(impl.RefusedDeed(v, deedsOf(deeds))))
	}
	_, done, _ := impl.PlantAfter(v, deedsOf("save 0, drop 0, save 1, send 0 1 0, save 0"))
	is(t, "those in between", 3, done)
}

// filling are the texts of deeds by which a station comes to keep some packets, whatever the source has sent.
func filling(v impl.Gather, station int64, rows []int64) string {
	var texts []string
	for _, r := range rows {
		texts = append(texts, fmt.Sprint("send 0 ", station, " 1"))
		if change := packetOf(v, v.Data, 1) ^ r; change > 0 {
			texts = append(texts, fmt.Sprint("spoil 0 ", change))
		}
		texts = append(texts, "deliver 0")
	}
	return strings.Join(texts, ", ")
}

// TestStationsThatKeepAsManyPacketsAsTheyCan get any other one.
func TestStationsThatKeepAsManyPacketsAsTheyCan(t *testing.T) {
	for _, v := range someGathers() {
		cols := v.Packets + v.Payload
		station := stationsOf(v) - 1
		var rows []int64
		for column := range cols {
			rows = append(rows, 1<<cols-1<<(cols-1-column))
		}
		text := filling(v, station, rows)
		m := checkAll(t, v, deedsOf(text))
		is(t, fmt.Sprint("full ", v), fmt.Sprint(rows), fmt.Sprint(m.plant.Stations[station].Rows))
		value(t, fmt.Sprint("rank of full ", v), v.Packets)(impl.RankAfter(v, deedsOf(text), station))
		value(t, fmt.Sprint("spoilt of full ", v), v.Payload)(impl.SpoiltAfter(v, deedsOf(text), station))
		for r := int64(0); r < 1<<cols; r += 1 + 1<<cols/8 {
			m := checkAll(t, v, deedsOf(text+", "+filling(v, station, []int64{r, r ^ 1, 1<<cols - 1})))
			is(t, fmt.Sprint("still ", v), fmt.Sprint(rows), fmt.Sprint(m.plant.Stations[station].Rows))
		}
		// All of its packets are mixed, or none, or more.
		if v.Relays > 0 {
			text = filling(v, 1, rows)
			most := int64(1)<<cols - 1
			plant, _, _ := impl.PlantAfter(v, deedsOf(fmt.Sprint(text, ", send 1 ", station, " ", most)))
			is(t, fmt.Sprint("sum of all ", v), []impl.Parcel{{To: station, Row: sumOf(rows, most)}}, plant.Wire)
			refusedIs(t, v, fmt.Sprint(text, ", send 1 ", station, " ", most+1), impl.ErrRange)
			refusedIs(t, v, fmt.Sprint(text, ", send 1 ", station, " 0"), impl.ErrState)
		}
	}
}

// TestSumsAreNotKept lets all packets come in behind some others.
func TestSumsAreNotKept(t *testing.T) {
	for _, v := range []impl.Gather{gatherOf(2, 0, 1, 1, 2), gatherOf(4, 1, 1, 9), gatherOf(1, 0, 2, 1, 0, 1)} {
		cols, station := v.Packets+v.Payload, stationsOf(v)-1
		for seed := range int64(12) {
			begin := mixedMatrix(cols, 1+seed%4, seed, 4).Rows
			kept := modelAfter(v, deedsOf(filling(v, station, begin))).plant.Stations[station].Rows
			for r := range int64(1) << cols {
				plant, _, _ := impl.PlantAfter(v, deedsOf(filling(v, station, append(slices.Clone(begin), r))))
				want := kept
				if !slices.Contains(sumsOf(impl.Matrix{Rows: kept}), r) {
					want = append(slices.Clone(kept), r)
				}
				is(t, fmt.Sprint(v, " comes in ", r, " behind ", begin), want, plant.Stations[station].Rows)
			}
		}
	}
}

// TestPacketsThatAreSpoiltInEachWay looks at all changes of each packet that the source sends.
func TestPacketsThatAreSpoiltInEachWay(t *testing.T) {
	for _, v := range []impl.Gather{gatherOf(1, 0, 1, 1), gatherOf(2, 0, 1, 1, 3), gatherOf(6, 1, 1, 42), gatherOf(2, 0, 3, 2, 0, 3)} {
		cols, station := v.Packets+v.Payload, stationsOf(v)-1
		for columns := int64(1); columns < 1<<cols; columns++ {
			for chosen := int64(1); chosen < 1<<v.Packets; chosen++ {
				once := fmt.Sprint("send 0 ", station, " ", chosen, ", spoil 0 ", columns)
				plant, _, _ := impl.PlantAfter(v, deedsOf(once))
				is(t, "spoilt once", []impl.Parcel{{To: station, Row: packetOf(v, v.Data, chosen) ^ columns}}, plant.Wire)
				plant, _, _ = impl.PlantAfter(v, deedsOf(once+fmt.Sprint(", spoil 0 ", columns)))
				is(t, "spoilt twice", []impl.Parcel{{To: station, Row: packetOf(v, v.Data, chosen)}}, plant.Wire)
				// The others come unspoilt.
				text := once + ", deliver 0"
				for i := range v.Packets {
					text += fmt.Sprint(", send 0 ", station, " ", 1<<i, ", deliver 0")
				}
				checkAll(t, v, deedsOf(text))
				if packetOf(v, v.Data, firstsOf(v, columns)) == columns {
					// The change makes another unspoilt packet, or 0.
					listed(t, "unspoilt "+text, v.Data)(impl.DataAfter(v, deedsOf(text), station))
					continue
				}
				value(t, "spoilt "+text, 1)(impl.SpoiltAfter(v, deedsOf(text), station))
				refusedList(t, "spoilt "+text, impl.ErrProof)(impl.DataAfter(v, deedsOf(text), station))
			}
		}
	}
}

// TestSpoiltPacketsThatHide are sent on in sums, and are seen only if more comes in.
func TestSpoiltPacketsThatHide(t *testing.T) {
	v := gatherOf(2, 1, 1, 1, 3)
	for deeds, want := range map[string]string{
		"send 0 1 1, spoil 0 4, deliver 0, send 0 1 2, deliver 0, send 1 2 3, deliver 0":                                                          "1 0 error notfound",
		"send 0 1 1, spoil 0 4, deliver 0, send 0 1 2, deliver 0, send 1 2 3, deliver 0, send 1 2 1, deliver 0":                                   "2 0 0 3",
		"send 0 1 1, spoil 0 4, deliver 0, send 0 1 2, deliver 0, send 1 2 3, deliver 0, send 0 2 2, deliver 0":                                   "2 0 0 3",
		"send 0 1 1, spoil 0 4, deliver 0, send 0 1 2, deliver 0, send 1 2 3, deliver 0, send 0 2 2, deliver 0, send 0 2 1, deliver 0":            "2 1 error proof",
		"send 0 1 1, spoil 0 2, deliver 0, send 1 2 1, deliver 0, send 0 2 2, deliver 0":                                                          "2 0 2 3",
		"send 0 1 1, spoil 0 2, deliver 0, send 1 2 1, deliver 0, send 0 2 3, deliver 0":                                                          "1 1 error proof",
		"send 0 1 1, spoil 0 1, deliver 0, send 1 2 1, deliver 0":                                                                                 "0 1 error proof",
		"send 0 1 1, spoil 0 8, deliver 0, send 0 1 1, deliver 0, send 1 2 3, deliver 0, send 0 2 1, deliver 0, send 0 2 2, deliver 0":            "2 1 error proof",
		"send 0 1 1, spoil 0 8, deliver 0, send 0 1 1, deliver 0, send 1 2 1, deliver 0, send 0 2 2, deliver 0":                                   "2 0 3 3",
		"send 0 2 1, spoil 0 4, deliver 0, send 0 2 1, spoil 0 8, deliver 0, send 0 2 1, deliver 0, send 0 2 2, deliver 0":                        "2 2 error proof",
		"send 0 2 1, spoil 0 4, deliver 0, send 0 2 1, spoil 0 8, deliver 0, send 0 2 1, deliver 0, send 0 2 2, deliver 0, crash 2":               "0 0 error notfound",
		"send 0 2 1, spoil 0 4, deliver 0, forget 2, send 0 2 1, deliver 0, send 0 2 2, deliver 0":                                                "2 0 1 3",
		"send 0 2 1, spoil 0 4, deliver 0, save 2, forget 2, send 0 2 1, deliver 0, send 0 2 2, deliver 0, crash 2":                               "1 0 error notfound",
		"send 0 2 1, deliver 0, save 2, send 0 2 2, spoil 0 12, deliver 0, crash 2, send 0 2 2, deliver 0":                                        "2 0 1 3",
		"send 0 2 1, deliver 0, send 0 2 2, spoil 0 12, spoil 0 12, deliver 0":                                                                    "2 0 1 3",
		"send 0 2 1, deliver 0, send 0 2 2, spoil 0 12, drop 0, send 0 2 3, deliver 0":                                                            "2 0 1 3",
		"send 0 2 3, spoil 0 3, deliver 0, send 0 2 1, spoil 0 1, deliver 0, send 0 2 2, spoil 0 2, deliver 0, send 0 2 1, deliver 0":             "1 2 error proof",
		"send 0 2 3, spoil 0 3, deliver 0, send 0 2 1, deliver 0, send 0 2 2, deliver 0, send 0 2 1, spoil 0 8, deliver 0, send 0 2 1, deliver 0": "2 1 error proof",
	} {
		list := deedsOf(deeds)
		m := checkAll(t, v, list)
		rank, _ := impl.RankAfter(v, list, 2)
		spoilt, _ := impl.SpoiltAfter(v, list, 2)
		data, code := impl.DataAfter(v, list, 2)
		got := strings.Trim(fmt.Sprint(data), "[]")
		if code != impl.OK {
			got = "error " + impl.CodeName(code)
		}
		is(t, "hidden "+deeds, want, fmt.Sprint(rank, spoilt, " ", got))
		is(t, "nothing is left out of "+deeds, 0, len(m.refused))
	}
}

// spoilsOf counts the deeds that have spoilt something, and the rank of what they change.
func spoilsOf(v impl.Gather, deeds []impl.Deed) (int64, int64) {
	m, count, columns := modelOf(v), int64(0), []int64{}
	for _, d := range deeds {
		if m.do(d) == impl.OK && d.Kind == impl.DdSpoil {
			count++
			columns = append(columns, d.B)
		}
	}
	return count, dimensionOf(setOf(columns).list)
}

// TestWhatHasBeenSpoiltIsBounded has many deeds.
func TestWhatHasBeenSpoiltIsBounded(t *testing.T) {
	found := 0
	for i, v := range someGathers() {
		for _, number := range []int64{12, 40, 120} {
			deeds := drawnDeeds(v, int64(i)*5+number, number, true)
			count, rank := spoilsOf(v, deeds)
			plant, _, _ := impl.PlantAfter(v, deeds)
			for station := range stationsOf(v) {
				name := fmt.Sprint(v, " behind ", textsOfDeeds(deeds), " at ", station)
				spoilt, _ := impl.SpoiltAfter(v, deeds, station)
				missed, code := impl.MissedBy(v, plant.Stations[station].Rows, v.Data)
				is(t, name+" is bounded", "true true true 0", fmt.Sprint(spoilt <= missed, missed <= count, missed <= rank, code))
				if spoilt > 0 {
					found++
				}
				if number > 40 || v.Packets*v.Payload > 8 {
					continue
				}
				if _, least, code := impl.MendAfter(v, deeds, station); code == impl.OK {
					is(t, name+" is mended", "true true", fmt.Sprint(spoilt <= least, least <= missed))
				}
			}
		}
	}
	is(t, "there are some", true, found > 100)
}

// TestSpoiltDimensionsOfAnyPackets lets packets come in that have nothing to do with the data.
func TestSpoiltDimensionsOfAnyPackets(t *testing.T) {
	for i, v := range someGathers() {
		station := stationsOf(v) - 1
		for several := range v.Packets + v.Payload + 1 {
			rows := mixedMatrix(v.Packets+v.Payload, several, int64(i)+several, max(1, several)).Rows
			checkAll(t, v, deedsOf(filling(v, station, rows)))
			// Only payloads, and only first columns.
			for k, r := range rows {
				rows[k] = r - firstsOf(v, r)
			}
			checkAll(t, v, deedsOf(filling(v, station, rows)))
			for k := range rows {
				rows[k] = int64(k+1) % (1 << v.Packets)
			}
			m := checkAll(t, v, deedsOf(filling(v, station, rows)))
			is(t, "only first columns", 0, m.spoilt(station))
			is(t, "only first columns", min(v.Packets, int64(bits.Len64(uint64(several)))), m.rank(station))
		}
	}
}
