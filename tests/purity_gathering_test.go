package tests

import (
	"fmt"
	"slices"
	"testing"

	"loop.example/g01144/impl"
)

// Promise 1 for chapter 8.

// gatherAsked are further arguments of the functions of chapter 8.
type gatherAsked struct {
	deeds      []impl.Deed
	station    int64
	rows, data []int64
	text       string
}

// gatherAnswers has everything that chapter 8 answers for a gathering, as text.
func gatherAnswers(v impl.Gather, a gatherAsked) string {
	text := fmt.Sprintln(impl.ValidGather(v))
	for _, d := range a.deeds[:min(len(a.deeds), 20)] {
		text += fmt.Sprintln(impl.ValidDeed(d), impl.DeedText(d))
	}
	text += fmt.Sprintln(impl.ReadDeed(a.text))
	text += fmt.Sprintln(impl.SourceRows(v))
	text += fmt.Sprintln(impl.PlantAfter(v, a.deeds))
	text += fmt.Sprintln(impl.RefusedDeed(v, a.deeds))
	text += fmt.Sprintln(impl.RankAfter(v, a.deeds, a.station))
	text += fmt.Sprintln(impl.SpoiltAfter(v, a.deeds, a.station))
	text += fmt.Sprintln(impl.DataAfter(v, a.deeds, a.station))
	text += fmt.Sprintln(impl.MissedBy(v, a.rows, a.data))
	text += fmt.Sprintln(impl.MendAfter(v, a.deeds, a.station))
	text += fmt.Sprintln(impl.FinishDeeds(v, a.deeds))
	text += fmt.Sprintln(impl.RunScript(v, a.text))
	return text
}

// oddGathers are gatherings of any numbers, and valid ones.
func oddGathers() []impl.Gather {
	list := append(noGathers(), someGathers()...)
	for i, number := range oddNumbers {
		other := oddNumbers[(i*7+3)%len(oddNumbers)]
		list = append(list,
			impl.Gather{Packets: number, Payload: other, Data: oddNumbers, Relays: number, Receivers: other},
			impl.Gather{Packets: 2, Payload: number, Data: []int64{number, other}, Receivers: 1},
			impl.Gather{Packets: 2, Payload: 2, Data: []int64{number, other}, Relays: 1, Receivers: 1},
			impl.Gather{Packets: 2, Payload: 2, Data: []int64{1, 2}, Relays: number, Receivers: 1},
			impl.Gather{Packets: 2, Payload: 2, Data: []int64{1, 2}, Receivers: number},
			impl.Gather{Packets: number, Payload: 2, Data: []int64{1, 2}, Receivers: 1},
		)
	}
	return list
}

// oddDeeds are deeds of any numbers.
func oddDeeds() []impl.Deed {
	var list []impl.Deed
	for i, number := range oddNumbers {
		other := oddNumbers[(i*5+1)%len(oddNumbers)]
		list = append(list, impl.Deed{Kind: number}, impl.Deed{Kind: int64(i % 10), A: number, B: other, C: number}, impl.Deed{Kind: 1 + int64(i%8), A: other})
	}
	return list
}

func TestEveryCallWithGatheringsReturnsTheSameAgain(t *testing.T) {
	for i, v := range oddGathers() {
		number := oddNumbers[i%len(oddNumbers)]
		odd := gatherAsked{deeds: oddDeeds(), station: number, rows: oddNumbers, data: oddNumbers, text: oddLines[i%len(oddLines)]}
		is(t, fmt.Sprint("again ", v, odd), gatherAnswers(v, odd), gatherAnswers(v, odd))
		for _, d := range oddDeeds() {
			odd.deeds = []impl.Deed{d}
			is(t, fmt.Sprint("again ", v, odd), gatherAnswers(v, odd), gatherAnswers(v, odd))
		}
		if impl.ValidGather(v) {
			a := gatherAsked{drawnDeeds(v, int64(i), 60, true), 1, []int64{1, 2}, v.Data, drawnScript(v, int64(i), 50)}
			b := a
			b.deeds, b.data = slices.Clone(a.deeds), slices.Clone(a.data)
			is(t, fmt.Sprint("again ", v, a), gatherAnswers(v, a), gatherAnswers(v, b))
		}
	}
}

// TestNothingIsKeptFromCallToCall asks for the same behind calls with other deeds.
func TestNothingIsKeptFromCallToCall(t *testing.T) {
	v := gatherOf(3, 1, 2, 1, 5, 7)
	want := gatherAnswers(v, gatherAsked{station: 1, text: "rank 1"})
	for seed := range int64(30) {
		gatherAnswers(v, gatherAsked{deeds: drawnDeeds(v, seed, 40, true), station: 2, text: drawnScript(v, seed, 40)})
		is(t, "behind other calls", want, gatherAnswers(v, gatherAsked{station: 1, text: "rank 1"}))
	}
}

func TestNilListsOfGatheringsAreEmptyLists(t *testing.T) {
	for _, v := range oddGathers() {
		for _, station := range []int64{0, 1} {
			a := gatherAsked{station: station}
			b := gatherAsked{station: station, deeds: []impl.Deed{}, rows: []int64{}, data: []int64{}}
			is(t, fmt.Sprint("nil ", v), gatherAnswers(v, a), gatherAnswers(v, b))
			a.data, b.data = v.Data, v.Data
			is(t, fmt.Sprint("nil ", v), gatherAnswers(v, a), gatherAnswers(v, b))
		}
	}
	v := impl.Gather{Packets: 1, Payload: 1, Receivers: 1}
	w := v
	w.Data = []int64{}
	is(t, "no data", gatherAnswers(v, gatherAsked{}), gatherAnswers(w, gatherAsked{}))
}

func TestLongListsForGatherings(t *testing.T) {
	long, deeds := make([]int64, 1000000), make([]impl.Deed, 1000000)
	v := gatherOf(2, 0, 1, 1, 3)
	w := v
	w.Data = long
	is(t, "long data", false, impl.ValidGather(w))
	refusedPlant(t, "long data", impl.ErrInvalid)(impl.PlantAfter(w, nil))
	refused(t, "long rows", impl.ErrRange)(impl.MissedBy(v, long, v.Data))
	refused(t, "long data", impl.ErrRange)(impl.MissedBy(v, nil, long))
	refuseDone(t, "long deeds", v, deeds, 1, impl.ErrInvalid)
	for i := range deeds {
		deeds[i] = impl.Deed{Kind: impl.DdSend, B: 1, C: 1}
	}
	refuseDone(t, "long deeds", v, deeds, 1, impl.ErrRange)
	deeds[len(deeds)-1].C = -1
	refuseDone(t, "long deeds with an invalid one", v, deeds, 1, impl.ErrInvalid)
	is(t, "long deeds alone", false, impl.ValidDeed(deeds[len(deeds)-1]))
}

// longerDeeds has some memory behind a list of deeds.
func longerDeeds(deeds []impl.Deed) ([]impl.Deed, []impl.Deed) {
	whole := append(slices.Clone(deeds), impl.Deed{Kind: 77}, impl.Deed{A: -5})
	return whole[:len(deeds)], whole
}

func TestGatheringsStayAsTheyAre(t *testing.T) {
	for i, v := range oddGathers() {
		deeds := oddDeeds()
		if impl.ValidGather(v) {
			deeds = drawnDeeds(v, int64(i), 40, true)
		}
		shown, all := longerDeeds(deeds)
		data, one := longer(v.Data)
		rows, two := longer(drawnData(3, 2, int64(i)))
		other, three := longer(v.Data)
		v.Data = data
		before := fmt.Sprint(v, all, one, two, three)
		gatherAnswers(v, gatherAsked{shown, int64(i % 4), rows, other, "save 0"})
		is(t, fmt.Sprint("arguments ", v), before, fmt.Sprint(v, all, one, two, three))
	}
}

// gatherResults are all lists of numbers that chapter 8 returns; station has to know the data.
func gatherResults(t *testing.T, v impl.Gather, deeds []impl.Deed, station int64) [][]int64 {
	t.Helper()
	var lists [][]int64
	add := func(list []int64, code int64) {
		t.Helper()
		is(t, fmt.Sprint("code ", v), impl.OK, code)
		lists = append(lists, list)
	}
	add(impl.SourceRows(v))
	add(impl.DataAfter(v, deeds, station))
	add(impl.DataAfter(v, nil, 0))
	data, _, code := impl.MendAfter(v, deeds, station)
	add(data, code)
	plant, _, code := impl.PlantAfter(v, deeds)
	for _, s := range plant.Stations {
		add(s.Rows, code)
		add(s.Saved, code)
	}
	clear(plant.Stations[:cap(plant.Stations)])
	clear(plant.Wire[:cap(plant.Wire)])
	plan, code := impl.FinishDeeds(v, deeds)
	is(t, "code", impl.OK, code)
	clear(plan[:cap(plan)])
	return lists
}

// TestListsOfGatheringsAreNewMemory has stations that have just saved what they keep, or come to it again.
func TestListsOfGatheringsAreNewMemory(t *testing.T) {
	for _, v := range someGathers() {
		if v.Packets*v.Payload > 10 {
			continue
		}
		station := stationsOf(v) - 1
		for _, end := range []string{"save 1", "save 1, crash 1, send 0 1 1", fmt.Sprint("crash ", station), fmt.Sprint("forget ", station, ", crash ", station), "save 0, forget 0, crash 0, send 0 1 1, send 0 1 1"} {
			deeds := deedsOf(lessons(v, station) + ", " + end)
			a := gatherAsked{deeds, station, v.Data, v.Data, "save 0\ndata 0"}
			before := fmt.Sprint(v, a)
			text := gatherAnswers(v, a)
			spoilEach(t, fmt.Sprint(v), gatherResults(t, v, deeds, station))
			is(t, fmt.Sprint("arguments ", v), before, fmt.Sprint(v, a))
			is(t, fmt.Sprint("results behind overwritten ones ", v), text, gatherAnswers(v, a))
		}
	}
}

// TestSavedPacketsAreNotChangedLater lets packets come in behind those that have been saved, in the same memory, as it were.
func TestSavedPacketsAreNotChangedLater(t *testing.T) {
	v := gatherOf(2, 0, 1, 1, 2, 3)
	for _, deeds := range []string{
		"send 0 1 1, deliver 0, save 1, send 0 1 2, deliver 0, crash 1, send 0 1 4, deliver 0",
		"send 0 1 1, deliver 0, save 1, crash 1, send 0 1 2, deliver 0, crash 1, send 0 1 4, deliver 0, crash 1",
		"send 0 1 1, deliver 0, send 0 1 2, deliver 0, save 1, forget 1, send 0 1 4, deliver 0, crash 1",
		"save 1, send 0 1 1, deliver 0, crash 1, send 0 1 2, deliver 0",
		"forget 0, crash 0, forget 0, send 0 1 1, crash 0, send 0 1 7, deliver 0",
	} {
		list := deedsOf(deeds)
		for number := range len(list) + 1 {
			checkPlant(t, deeds, modelAfter(v, list[:number]), list[:number])
		}
	}
}
