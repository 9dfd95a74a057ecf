package tests

import (
	"fmt"
	"slices"
	"strings"
	"testing"

	"loop.example/g01144/impl"
)

// Promise 21, for gatherings and deeds: deeds are read from their texts.

func TestGatheringsThatAreValid(t *testing.T) {
	for _, v := range someGathers() {
		for relays := int64(0); relays <= 3; relays++ {
			for receivers := int64(1); receivers <= 3; receivers++ {
				v.Relays, v.Receivers = relays, receivers
				is(t, fmt.Sprint("valid ", v), true, impl.ValidGather(v))
			}
		}
	}
	for _, v := range noGathers() {
		is(t, fmt.Sprint("invalid ", v), false, impl.ValidGather(v))
	}
}

func TestPacketsOfTheSource(t *testing.T) {
	for _, v := range someGathers() {
		var want []int64
		for i := range v.Packets {
			want = append(want, packetOf(v, v.Data, 1<<i))
		}
		listed(t, fmt.Sprint("packets of ", v), want)(impl.SourceRows(v))
	}
	listed(t, "one packet of one bit", []int64{3})(impl.SourceRows(gatherOf(1, 0, 1, 1)))
	listed(t, "one packet of one bit, 0", []int64{1})(impl.SourceRows(gatherOf(1, 0, 1, 0)))
	listed(t, "as many as there can be", []int64{1009, 2, 20, 536})(impl.SourceRows(gatherOf(6, 3, 3, 63, 0, 1, 33)))
	for _, v := range noGathers() {
		refusedList(t, fmt.Sprint("packets of ", v), impl.ErrInvalid)(impl.SourceRows(v))
	}
}

// deedNumbers are at and around the numbers of digits.
var deedNumbers = []int64{0, 1, 2, 5, 9, 10, 11, 90, 99, 100, 101, 999, 1000, 1023, 1024, 9000, 9998, 9999}

// someDeeds are valid, of all kinds and with all of these numbers.
func someDeeds() []impl.Deed {
	var list []impl.Deed
	for _, a := range deedNumbers {
		for kind := int64(2); kind <= 8; kind++ {
			if kind != impl.DdSpoil {
				list = append(list, impl.Deed{Kind: kind, A: a})
			}
		}
		for _, b := range deedNumbers {
			list = append(list, impl.Deed{Kind: impl.DdSpoil, A: a, B: b})
			for _, c := range deedNumbers {
				list = append(list, impl.Deed{Kind: impl.DdSend, A: a, B: b, C: c})
			}
		}
	}
	return list
}

func TestDeedsAndTheirTexts(t *testing.T) {
	for _, d := range someDeeds() {
		text := textsOfDeeds([]impl.Deed{d})
		is(t, text+" is valid", true, impl.ValidDeed(d))
		is(t, "text of "+text, text, impl.DeedText(d))
		deedRead(t, text, d)(impl.ReadDeed(text))
	}
	for number := range int64(10000) {
		d := impl.Deed{Kind: 2 + number%3, A: number}
		is(t, "text with a number", textsOfDeeds([]impl.Deed{d}), impl.DeedText(d))
		deedRead(t, "text with a number", d)(impl.ReadDeed(impl.DeedText(d)))
	}
	for _, d := range noDeeds() {
		is(t, fmt.Sprint("invalid ", d), false, impl.ValidDeed(d))
		is(t, fmt.Sprint("text of ", d), "", impl.DeedText(d))
	}
}

func TestDeedsThatAreKnown(t *testing.T) {
	for text, d := range map[string]impl.Deed{
		"send 0 1 1":          {Kind: 1, B: 1, C: 1},
		"send 9999 9999 9999": {Kind: 1, A: 9999, B: 9999, C: 9999},
		"deliver 0":           {Kind: 2},
		"copy 11":             {Kind: 3, A: 11},
		"drop 9999":           {Kind: 4, A: 9999},
		"spoil 2 4":           {Kind: 5, A: 2, B: 4},
		"save 0":              {Kind: 6},
		"crash 3":             {Kind: 7, A: 3},
		"forget 6":            {Kind: 8, A: 6},
	} {
		is(t, text, text, impl.DeedText(d))
		deedRead(t, text, d)(impl.ReadDeed(text))
	}
}

// checkText asks whether the text is that of a valid deed, and of which.
func checkText(t *testing.T, text string) {
	t.Helper()
	if deedPattern.MatchString(text) {
		deedRead(t, text, deedOf(text))(impl.ReadDeed(text))
	} else {
		refusedDeed(t, fmt.Sprintf("%q", text), impl.ErrSyntax)(impl.ReadDeed(text))
	}
}

func TestTextsThatAreNoDeeds(t *testing.T) {
	for _, text := range []string{
		"", " ", "\n", "0", "send", "send ", "send  ", "send   ", "send 0", "send 0 1", "send 0 1 ", "send 0 1 1 ", "send 0 1 1 1", "send 0 1 1 ",
		" send 0 1 1", "send  0 1 1", "send 0  1 1", "send 0 1  1", "send\t0 1 1", "send 0 1 1\n", "send 0 1 1\r", "\nsend 0 1 1", "send 0 1 1\x00",
		"send 00 1 1", "send 0 01 1", "send 0 1 01", "send 0 1 001", "send +0 1 1", "send -0 1 1", "send 0 +1 1", "send 0 1 -1", "send 0 1 1.0", "send 0 1 1e1",
		"send 10000 1 1", "send 0 10000 1", "send 0 1 10000", "send 0 1 09999", "send 0 1 99999", "send 0 1 18446744073709551617", "send 0 1 9223372036854775808", "send 0 1 4294967297",
		"send 0x0 1 1", "send 0 1_0 1", "send 0 1 1_", "send 0 1 a", "send 0 1 ١", "send 0 1 １", "send,0,1,1", "send 0,1,1", "send 0 1, 1",
		"Send 0 1 1", "SEND 0 1 1", "sen 0 1 1", "sends 0 1 1", "send0 1 1", "0 1 1 send", "1 0 1 1", "send send 0 1 1",
		"deliver", "deliver ", "deliver 0 ", "deliver 0 0", "deliver 0 1 1", "deliver 00", "deliver -1", "deliver 10000", "copy", "copy 1 2", "copy  1", "copi 1", "drop", "drop 1 2", "drop 1.", "drop 0001",
		"spoil", "spoil 1", "spoil 1 ", "spoil 1 2 ", "spoil 1 2 0", "spoil 1 2 3", "spoil 1 02", "save", "save  0", "save 0 0", "save +0", "crash", "crash a", "crash 1 1", "forget", "forget 1 0", "forget\u00a01",
		"rank 0", "data 1", "what", "ok", "finish 1", "send 0 1 1 deliver 0", "send 0 1 1\ndeliver 0", "deliver 0,", "deliver zero", "\xff 0", "deliver \xff",
	} {
		refusedDeed(t, fmt.Sprintf("%q", text), impl.ErrSyntax)(impl.ReadDeed(text))
		is(t, fmt.Sprintf("%q", text), false, deedPattern.MatchString(text))
	}
	for _, kind := range kindNames[1:] {
		for _, rest := range []string{"", " ", " 1", " 1 1", " 1 1 1", " 1 1 1 1", " 1 1 1 1 1", " 1  1", " 1 ", "  1", " 01", " 9999", " 10000", " 1 9999", " 1 10000", " 1 1 9999", " 1 1 10000"} {
			checkText(t, kind+rest)
		}
	}
}

// TestTextsWithOneChange are as good as they are without it, or not.
func TestTextsWithOneChange(t *testing.T) {
	for _, text := range []string{"send 0 1 1", "send 10 209 9999", "deliver 0", "copy 7", "drop 100", "spoil 3 40", "save 1", "crash 12", "forget 0"} {
		for i := range len(text) + 1 {
			for _, sign := range "0123456789 +-_.,adenops\n\t\x00" {
				checkText(t, text[:i]+string(sign)+text[i:])
				if i < len(text) {
					checkText(t, text[:i]+string(sign)+text[i+1:])
				}
			}
			if i < len(text) {
				checkText(t, text[:i]+text[i+1:])
				checkText(t, text[:i]+text[i:i+1]+text[i:])
			}
			checkText(t, text[:i])
			checkText(t, text[i:])
		}
	}
}

func TestLongTextsOfDeeds(t *testing.T) {
	for _, text := range []string{
		strings.Repeat(" ", 1000000),
		strings.Repeat("1", 1000000),
		strings.Repeat("send 0 1 1 ", 90000),
		"send 0 1 " + strings.Repeat("0", 999991),
		"send 0 1 1" + strings.Repeat(" ", 999990),
		"deliver " + strings.Repeat("9", 999992),
		strings.Repeat("deliver", 142857),
	} {
		refusedDeed(t, text[:30], impl.ErrSyntax)(impl.ReadDeed(text))
	}
}

// TestDeedsThatAreInvalid come ahead of everything else, also if they are too many, and wherever they are.
func TestDeedsThatAreInvalid(t *testing.T) {
	good := deedsOf("send 0 1 1, deliver 0, drop 5")
	many := slices.Repeat(good, 101)
	for i, d := range noDeeds() {
		for _, deeds := range [][]impl.Deed{{d}, append([]impl.Deed{d}, good...), append(slices.Clone(good), d), slices.Concat(good, []impl.Deed{d}, good), append(slices.Clone(many), d)} {
			v := gatherOf(3, 1, 1, 5, 2)
			if i%2 == 0 {
				v = gatherOf(6, 0, 3, 5, 2, 63, 0)
			}
			refuseDone(t, fmt.Sprint("deed ", d), v, deeds, 1, impl.ErrInvalid)
			refuseDone(t, fmt.Sprint("deed ", d), v, deeds, -1, impl.ErrInvalid)
		}
	}
	for _, v := range noGathers() {
		for _, deeds := range [][]impl.Deed{nil, good, many, {{}}} {
			refuseDone(t, fmt.Sprint("gathering ", v), v, deeds, 1, impl.ErrInvalid)
			refuseDone(t, fmt.Sprint("gathering ", v), v, deeds, 99, impl.ErrInvalid)
		}
		refused(t, fmt.Sprint("gathering ", v), impl.ErrInvalid)(impl.MissedBy(v, nil, v.Data))
		refused(t, fmt.Sprint("gathering ", v), impl.ErrInvalid)(impl.MissedBy(v, []int64{-1}, nil))
		refusedScript(t, fmt.Sprint("gathering ", v), impl.ErrInvalid)(impl.RunScript(v, ""))
		refusedScript(t, fmt.Sprint("gathering ", v), impl.ErrInvalid)(impl.RunScript(v, "save 0\nrank 0"))
		refusedScript(t, fmt.Sprint("gathering ", v), impl.ErrInvalid)(impl.RunScript(v, strings.Repeat("\n", 20001)))
	}
}

// refuseDone asks all functions that are given deeds for an error.
func refuseDone(t *testing.T, name string, v impl.Gather, deeds []impl.Deed, station, code int64) {
	t.Helper()
	refusedPlant(t, name, code)(impl.PlantAfter(v, deeds))
	refusedPlace(t, name, code)(impl.RefusedDeed(v, deeds))
	refusedDeeds(t, name, code)(impl.FinishDeeds(v, deeds))
	refuseAtStation(t, name, v, deeds, station, code)
}

// refuseAtStation asks all functions that are given a station for an error.
func refuseAtStation(t *testing.T, name string, v impl.Gather, deeds []impl.Deed, station, code int64) {
	t.Helper()
	refused(t, name, code)(impl.RankAfter(v, deeds, station))
	refused(t, name, code)(impl.SpoiltAfter(v, deeds, station))
	refusedList(t, name, code)(impl.DataAfter(v, deeds, station))
	refusedMend(t, name, code)(impl.MendAfter(v, deeds, station))
}

func TestStationsThatAreNone(t *testing.T) {
	for _, v := range someGathers() {
		for _, station := range noStations(v) {
			for _, deeds := range [][]impl.Deed{nil, deedsOf("send 0 1 1, deliver 0"), deedsOf("forget 0, save 0")} {
				refuseAtStation(t, fmt.Sprint(v, " at ", station), v, deeds, station, impl.ErrRange)
			}
		}
	}
}

func TestAsManyDeedsAsThereCanBeAndMore(t *testing.T) {
	for i, v := range someGathers() {
		if i%4 > 0 {
			continue
		}
		deeds := drawnDeeds(v, int64(i), 301, true)
		m := modelAfter(v, deeds[:300])
		name := fmt.Sprint("300 deeds of ", v)
		checkPlant(t, name, m, deeds[:300])
		checkStations(t, name, m, deeds[:300])
		for _, many := range [][]impl.Deed{deeds, slices.Concat(deeds, deeds), slices.Repeat(deedsOf("drop 12"), 301)} {
			refuseDone(t, fmt.Sprint(v, " more deeds"), v, many, 1, impl.ErrRange)
			refuseDone(t, fmt.Sprint(v, " more deeds"), v, many, -1, impl.ErrRange)
		}
	}
}
