package tests

import (
	"fmt"
	"math"
	"slices"
	"testing"

	"loop.example/g01144/impl"
)

// Promise 22, for data that are mended.

func TestMissesOfPackets(t *testing.T) {
	for i, v := range someGathers() {
		for number := range int64(11) {
			rows := mixedMatrix(v.Packets+v.Payload, number, int64(i)+number, 1+number).Rows
			for _, data := range append(dataOfAllKinds(v.Packets, v.Payload), v.Data) {
				value(t, fmt.Sprint(v, " missed by ", rows, " for ", data), missOf(v, rows, data))(impl.MissedBy(v, rows, data))
			}
		}
		own, _ := impl.SourceRows(v)
		value(t, fmt.Sprint(v, " missed by nothing"), 0)(impl.MissedBy(v, nil, v.Data))
		value(t, fmt.Sprint(v, " missed by 0"), 0)(impl.MissedBy(v, make([]int64, 10), drawnData(v.Packets, v.Payload, 8)))
		value(t, fmt.Sprint(v, " missed by its own"), 0)(impl.MissedBy(v, own, v.Data))
		value(t, fmt.Sprint(v, " missed by its own, many times"), 0)(impl.MissedBy(v, slices.Repeat(own, 10)[:10], v.Data))
		for chosen := range int64(1) << v.Packets {
			value(t, fmt.Sprint(v, " missed by sums"), 0)(impl.MissedBy(v, []int64{packetOf(v, v.Data, chosen)}, v.Data))
		}
		// Each bit of the payload is missed by one packet.
		rows := []int64{}
		for column := range v.Payload {
			rows = append(rows, packetOf(v, v.Data, column%(1<<v.Packets))^1<<(v.Packets+column))
			value(t, fmt.Sprint(v, " missed by ", rows), column+1)(impl.MissedBy(v, rows, v.Data))
		}
	}
}

// TestMissesForOtherData are those of the payloads that differ.
func TestMissesForOtherData(t *testing.T) {
	for i, v := range someGathers() {
		own, _ := impl.SourceRows(v)
		for seed := range int64(4) {
			data := drawnData(v.Packets, v.Payload, seed+int64(i))
			want := rankOfWord(sumOfWords(data, v.Data))
			value(t, fmt.Sprint(v, " missed for ", data), want)(impl.MissedBy(v, own, data))
		}
	}
}

func TestMissesThatAreKnown(t *testing.T) {
	v := gatherOf(2, 0, 1, 1, 3)
	value(t, "unspoilt", 0)(impl.MissedBy(v, []int64{5, 14, 11}, []int64{1, 3}))
	value(t, "one spoilt", 1)(impl.MissedBy(v, []int64{5, 14, 15}, []int64{1, 3}))
	value(t, "two spoilt", 2)(impl.MissedBy(v, []int64{1, 6, 11}, []int64{1, 3}))
	value(t, "two spoilt in the same way", 1)(impl.MissedBy(v, []int64{1, 10, 11}, []int64{1, 3}))
	value(t, "spoilt ahead of the payload", 1)(impl.MissedBy(v, []int64{4}, []int64{1, 3}))
	value(t, "spoilt there without a difference", 0)(impl.MissedBy(gatherOf(2, 0, 1, 1, 0), []int64{7}, []int64{1, 0}))
	value(t, "data of others", 2)(impl.MissedBy(v, []int64{5, 14}, []int64{0, 1}))
}

func TestMissesOutOfRange(t *testing.T) {
	for _, v := range someGathers() {
		cols := v.Packets + v.Payload
		own, _ := impl.SourceRows(v)
		for _, r := range []int64{-1, 1 << cols, 1<<cols + 1, 1 << 32, 1<<32 + 1, math.MinInt64, math.MaxInt64} {
			for _, rows := range [][]int64{{r}, {0, r}, {r, 0}, append(slices.Clone(own), r), append(make([]int64, 9), r), append(make([]int64, 10), r)} {
				refused(t, fmt.Sprint(v, " missed by ", rows), impl.ErrRange)(impl.MissedBy(v, rows, v.Data))
			}
		}
		value(t, fmt.Sprint(v, " missed by 10"), missOf(v, slices.Repeat([]int64{1<<cols - 1}, 10), v.Data))(impl.MissedBy(v, slices.Repeat([]int64{1<<cols - 1}, 10), v.Data))
		for _, number := range []int{11, 12, 100} {
			refused(t, fmt.Sprint(v, " missed by ", number), impl.ErrRange)(impl.MissedBy(v, make([]int64, number), v.Data))
		}
		for _, data := range [][]int64{nil, {}, v.Data[1:], append(slices.Clone(v.Data), 0), make([]int64, 10), make([]int64, 11)} {
			if len(data) != len(v.Data) {
				refused(t, fmt.Sprint(v, " missed for ", data), impl.ErrRange)(impl.MissedBy(v, own, data))
				refused(t, fmt.Sprint(v, " missed for ", data), impl.ErrRange)(impl.MissedBy(v, nil, data))
			}
		}
		for _, a := range []int64{-1, 1 << v.Payload, 1<<v.Payload + 1, 1 << 32, math.MinInt64, math.MaxInt64} {
			for place := range v.Data {
				data := slices.Clone(v.Data)
				data[place] = a
				refused(t, fmt.Sprint(v, " missed for ", data), impl.ErrRange)(impl.MissedBy(v, own, data))
				refused(t, fmt.Sprint(v, " missed for ", data), impl.ErrRange)(impl.MissedBy(v, nil, data))
			}
		}
	}
}

func TestMendedDataBehindAnyDeeds(t *testing.T) {
	counts := map[int64]int{}
	for i, v := range someGathers() {
		for _, number := range []int64{0, 15, 40} {
			deeds := drawnDeeds(v, int64(i)*7+number, number, true)
			m := modelAfter(v, deeds)
			for station := range stationsOf(v) {
				if v.Packets*v.Payload > 6 && (station+int64(i))%3 > 0 {
					continue
				}
				counts[checkMends(t, fmt.Sprint(v, " behind ", textsOfDeeds(deeds)), m, deeds, station)]++
			}
		}
	}
	for _, code := range []int64{impl.OK, impl.ErrState, impl.ErrLimit} {
		is(t, fmt.Sprint("there are some with ", impl.CodeName(code)), true, counts[code] > 30)
	}
}

// TestMendedDataOfAllPackets lets all packets come in to a receiver of small gatherings.
func TestMendedDataOfAllPackets(t *testing.T) {
	counts := map[int64]int{}
	for _, v := range []impl.Gather{gatherOf(1, 0, 1, 1), gatherOf(2, 0, 1, 2), gatherOf(1, 0, 1, 1, 0), gatherOf(1, 1, 1, 1, 0)} {
		cols, station := v.Packets+v.Payload, stationsOf(v)-1
		for number := range int64(4) {
			for _, rows := range matricesOf(cols, number) {
				if cols == 3 && number == 3 && sumOf(rows.Rows, 7)*5%8 != rows.Rows[0] {
					continue
				}
				deeds := deedsOf(filling(v, station, rows.Rows))
				m := modelAfter(v, deeds)
				counts[checkMends(t, fmt.Sprint(v, " with ", rows.Rows), m, deeds, station)]++
			}
		}
	}
	is(t, "all kinds of results", "true true", fmt.Sprint(counts[impl.OK] > 50, counts[impl.ErrState] > 50))
}

// TestUnspoiltDataAreMendedWithoutMisses if the rank is full, and are not the only ones without misses otherwise.
func TestUnspoiltDataAreMendedWithoutMisses(t *testing.T) {
	for _, v := range someGathers() {
		station := stationsOf(v) - 1
		all := deedsOf(lessons(v, station))
		name := fmt.Sprint(v, " mended")
		if v.Packets*v.Payload > 10 {
			refusedMend(t, name, impl.ErrLimit)(impl.MendAfter(v, all, station))
			refusedMend(t, name, impl.ErrLimit)(impl.MendAfter(v, nil, station))
			refusedMend(t, name, impl.ErrLimit)(impl.MendAfter(v, nil, 0))
			continue
		}
		mended(t, name, v.Data, 0)(impl.MendAfter(v, all, station))
		mended(t, name, v.Data, 0)(impl.MendAfter(v, nil, 0))
		refusedMend(t, name+" without packets", impl.ErrState)(impl.MendAfter(v, nil, station))
		refusedMend(t, name+" without packets", impl.ErrState)(impl.MendAfter(v, deedsOf("forget 0"), 0))
		refusedMend(t, name+" but for a packet", impl.ErrState)(impl.MendAfter(v, all[:len(all)-2], station))
	}
}

// TestMendedDataThatAreKnown have few errors in many packets.
func TestMendedDataThatAreKnown(t *testing.T) {
	v := gatherOf(3, 0, 1, 5)
	five := "send 0 1 1, deliver 0"
	mended(t, "one packet", []int64{5}, 0)(impl.MendAfter(v, deedsOf(five), 1))
	mended(t, "one spoilt packet", []int64{7}, 0)(impl.MendAfter(v, deedsOf("send 0 1 1, spoil 0 4, deliver 0"), 1))
	refusedMend(t, "one packet of each kind", impl.ErrState)(impl.MendAfter(v, deedsOf(five+", send 0 1 1, spoil 0 4, deliver 0"), 1))
	refusedMend(t, "one packet of the miss alone", impl.ErrState)(impl.MendAfter(v, deedsOf("send 0 1 1, spoil 0 1, deliver 0"), 1))
	two := gatherOf(2, 0, 1, 1, 3)
	mended(t, "the rows of two", []int64{1, 3}, 0)(impl.MendAfter(two, deedsOf("send 0 1 3, deliver 0, send 0 1 2, deliver 0"), 1))
	mended(t, "a row that is spoilt", []int64{1, 2}, 0)(impl.MendAfter(two, deedsOf("send 0 1 1, deliver 0, send 0 1 2, spoil 0 4, deliver 0"), 1))
	// A payload of one bit: two packets for the one, one packet for the other.
	refusedMend(t, "any rank of 1", impl.ErrState)(impl.MendAfter(gatherOf(1, 0, 1, 1), deedsOf("send 0 1 1, deliver 0, send 0 1 1, spoil 0 2, deliver 0"), 1))
	refusedMend(t, "a sum that is spoilt, and both rows", impl.ErrState)(impl.MendAfter(two, deedsOf("send 0 1 1, deliver 0, send 0 1 2, deliver 0, send 0 1 3, spoil 0 4, deliver 0"), 1))
}

// TestOnlyDataThatAreKnownAreMended as a sum of payload alone, which is a miss anyway, can be added to any row of the data.
func TestOnlyDataThatAreKnownAreMended(t *testing.T) {
	for i, v := range someGathers() {
		if v.Packets*v.Payload > 8 {
			continue
		}
		for _, number := range []int64{20, 60} {
			deeds := drawnDeeds(v, int64(i)*9+number, number, true)
			for station := range stationsOf(v) {
				name := fmt.Sprint(v, " behind ", textsOfDeeds(deeds), " at ", station)
				if data, code := impl.DataAfter(v, deeds, station); code == impl.OK {
					mended(t, name, data, 0)(impl.MendAfter(v, deeds, station))
				} else {
					refusedMend(t, name, impl.ErrState)(impl.MendAfter(v, deeds, station))
				}
			}
		}
	}
}

// TestManyBitsAreNotMended has 10 bits of data and more, and errors ahead of that.
func TestManyBitsAreNotMended(t *testing.T) {
	for packets := int64(1); packets <= 4; packets++ {
		for payload := int64(1); payload <= 6; payload++ {
			v := gatherOf(payload, 0, 1, drawnData(packets, payload, 5)...)
			deeds := deedsOf(lessons(v, 1))
			name := fmt.Sprint("bits of ", v)
			if packets*payload <= 10 {
				mended(t, name, v.Data, 0)(impl.MendAfter(v, deeds, 1))
			} else {
				refusedMend(t, name, impl.ErrLimit)(impl.MendAfter(v, deeds, 1))
			}
			refusedMend(t, name, impl.ErrRange)(impl.MendAfter(v, deeds, 2))
			refusedMend(t, name, impl.ErrRange)(impl.MendAfter(v, slices.Repeat(deeds, 101), 1))
			refusedMend(t, name, impl.ErrInvalid)(impl.MendAfter(v, append(deeds, impl.Deed{}), 1))
		}
	}
}
