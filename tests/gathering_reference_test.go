package tests

import (
	"fmt"
	"math"
	"regexp"
	"slices"
	"strconv"
	"strings"
	"testing"

	"loop.example/g01144/impl"
)

// What the tests of chapter 8 hold the program against: plants that are changed as the table of the document says, sets of all sums of what is kept, and lists of all data.

// deedPattern is that of the texts of valid deeds.
var deedPattern = regexp.MustCompile("^(" + strings.ReplaceAll("send N N N|spoil N N|(deliver|copy|drop|save|crash|forget) N", "N", "(0|[1-9][0-9]{0,3})") + ")$")

// kindNames are the words of the texts, by their kinds.
var kindNames = []string{"", "send", "deliver", "copy", "drop", "spoil", "save", "crash", "forget"}

// kindNumbers is how many numbers each of them mentions.
var kindNumbers = []int{0, 3, 1, 1, 1, 2, 1, 1, 1}

// gatherOf has some data.
func gatherOf(payload, relays, receivers int64, data ...int64) impl.Gather {
	return impl.Gather{Packets: int64(len(data)), Payload: payload, Data: data, Relays: relays, Receivers: receivers}
}

// drawnData looks as if it had been drawn by lot.
func drawnData(packets, payload, seed int64) []int64 {
	draw := lot(seed*97 + packets*11 + payload)
	data := []int64{}
	for range packets {
		data = append(data, draw.below(1<<payload))
	}
	return data
}

// dataOfAllKinds are all 0, all 1, equal but for one, and drawn.
func dataOfAllKinds(packets, payload int64) [][]int64 {
	equal := slices.Repeat([]int64{1}, int(packets))
	equal[0] = 1<<payload - 1
	return [][]int64{
		make([]int64, packets),
		slices.Repeat([]int64{1<<payload - 1}, int(packets)),
		equal,
		drawnData(packets, payload, 3),
		drawnData(packets, payload, 4),
	}
}

// someGathers have all numbers of packets and of bits, and all numbers of relays and of receivers in turns.
func someGathers() []impl.Gather {
	var list []impl.Gather
	for packets := int64(1); packets <= 4; packets++ {
		for payload := int64(1); payload <= 6; payload++ {
			for _, data := range dataOfAllKinds(packets, payload) {
				i := int64(len(list))
				list = append(list, gatherOf(payload, i%4, 1+i%3, data...))
			}
		}
	}
	return list
}

// noGathers are invalid, each for a reason of its own.
func noGathers() []impl.Gather {
	good := gatherOf(2, 1, 2, 1, 3, 0)
	list := []impl.Gather{{}, {Packets: 1, Payload: 1, Receivers: 1}, {Data: []int64{0}, Payload: 1, Receivers: 1}}
	change := func(change func(v *impl.Gather)) {
		v := good
		v.Data = slices.Clone(good.Data)
		change(&v)
		list = append(list, v)
	}
	for _, number := range []int64{-1, math.MinInt64, math.MaxInt64, 1 << 32, 1<<32 + 3, 7, 64} {
		change(func(v *impl.Gather) { v.Packets = number })
		change(func(v *impl.Gather) { v.Payload = number })
		change(func(v *impl.Gather) { v.Relays = number })
		change(func(v *impl.Gather) { v.Receivers = number })
	}
	change(func(v *impl.Gather) { v.Packets = 0 })
	change(func(v *impl.Gather) { v.Packets, v.Data = 0, nil })
	change(func(v *impl.Gather) { v.Packets = 2 })
	change(func(v *impl.Gather) { v.Packets = 4 })
	change(func(v *impl.Gather) { v.Packets, v.Data = 5, []int64{0, 0, 0, 0, 0} })
	change(func(v *impl.Gather) { v.Payload = 0 })
	change(func(v *impl.Gather) { v.Payload, v.Data = 0, []int64{0, 0, 0} })
	change(func(v *impl.Gather) { v.Payload = 1 })
	change(func(v *impl.Gather) { v.Data = []int64{1, 3} })
	change(func(v *impl.Gather) { v.Data = nil })
	change(func(v *impl.Gather) { v.Data = []int64{1, 3, 0, 0} })
	change(func(v *impl.Gather) { v.Data = make([]int64, 11) })
	change(func(v *impl.Gather) { v.Relays = 4 })
	change(func(v *impl.Gather) { v.Receivers = 0 })
	change(func(v *impl.Gather) { v.Receivers = 4 })
	for place := range good.Data {
		for _, number := range []int64{-1, 4, 5, 8, 64, 1 << 32, 1<<32 + 1, math.MinInt64, math.MaxInt64} {
			change(func(v *impl.Gather) { v.Data[place] = number })
		}
	}
	return list
}

// noDeeds are invalid, each for a reason of its own.
func noDeeds() []impl.Deed {
	list := []impl.Deed{{}}
	for _, kind := range []int64{0, 9, 10, -1, 256, 1<<32 + 1, math.MinInt64, math.MaxInt64} {
		list = append(list, impl.Deed{Kind: kind}, impl.Deed{Kind: kind, A: 1, B: 1, C: 1})
	}
	for kind := int64(1); kind <= 8; kind++ {
		for _, number := range []int64{-1, 10000, 10001, 1 << 16, 1 << 32, math.MinInt64, math.MaxInt64} {
			list = append(list, impl.Deed{Kind: kind, A: number}, impl.Deed{Kind: kind, B: number}, impl.Deed{Kind: kind, C: number})
		}
		for _, number := range []int64{1, 9999} {
			if kindNumbers[kind] < 2 {
				list = append(list, impl.Deed{Kind: kind, B: number}, impl.Deed{Kind: kind, A: 1, B: number})
			}
			if kindNumbers[kind] < 3 {
				list = append(list, impl.Deed{Kind: kind, C: number}, impl.Deed{Kind: kind, A: 1, C: number})
			}
		}
	}
	return list
}

// deedsOf reads deeds that are written behind each other, separated by commas.
func deedsOf(text string) []impl.Deed {
	list := []impl.Deed{}
	for _, line := range strings.Split(text, ", ") {
		if line != "" {
			list = append(list, deedOf(line))
		}
	}
	return list
}

// deedOf reads the text of a valid deed.
func deedOf(text string) impl.Deed {
	words := strings.Fields(text)
	d := impl.Deed{Kind: int64(slices.Index(kindNames, words[0]))}
	for i, word := range words[1:] {
		number, _ := strconv.Atoi(word)
		*[]*int64{&d.A, &d.B, &d.C}[i] = int64(number)
	}
	return d
}

// textsOfDeeds are their texts, separated by commas.
func textsOfDeeds(deeds []impl.Deed) string {
	var texts []string
	for _, d := range deeds {
		text := kindNames[d.Kind]
		for _, number := range []int64{d.A, d.B, d.C}[:kindNumbers[d.Kind]] {
			text += fmt.Sprint(" ", number)
		}
		texts = append(texts, text)
	}
	return strings.Join(texts, ", ")
}

// stationsOf is the number of stations.
func stationsOf(v impl.Gather) int64 {
	return 1 + v.Relays + v.Receivers
}

// noStations are numbers that are no stations.
func noStations(v impl.Gather) []int64 {
	return []int64{-1, stationsOf(v), stationsOf(v) + 1, 7, 64, 9999, 1 << 32, math.MaxInt64, math.MinInt64}
}

// packetOf has the sum of some rows of the data, written column by column from the last one on.
func packetOf(v impl.Gather, data []int64, chosen int64) int64 {
	r, told := int64(0), sumOf(data, chosen)
	for column := v.Payload - 1; column >= 0; column-- {
		r = 2*r + told>>column%2
	}
	for column := v.Packets - 1; column >= 0; column-- {
		r = 2*r + chosen>>column%2
	}
	return r
}

// firstsOf are the first columns of a packet, and behindOf those behind them.
func firstsOf(v impl.Gather, r int64) int64 { return r % (1 << v.Packets) }
func behindOf(v impl.Gather, r int64) int64 { return r / (1 << v.Packets) }

// model is a gathering at work.
type model struct {
	v       impl.Gather
	plant   impl.Plant
	done    int64
	refused []int64
	codes   []int64
	busy    bool
}

// modelOf is what is in the beginning.
func modelOf(v impl.Gather) *model {
	m := &model{v: v}
	m.plant.Stations = make([]impl.Station, stationsOf(v))
	for i := range v.Packets {
		r := packetOf(v, v.Data, 1<<i)
		own := &m.plant.Stations[0]
		own.Rows, own.Saved = append(own.Rows, r), append(own.Saved, r)
	}
	return m
}

// modelAfter is what is behind some deeds.
func modelAfter(v impl.Gather, deeds []impl.Deed) *model {
	m := modelOf(v)
	for i, d := range deeds {
		if code := m.do(d); code == impl.OK {
			m.done++
		} else {
			m.refused, m.codes = append(m.refused, int64(i)), append(m.codes, code)
		}
	}
	return m
}

// do does a deed, or returns its error.
func (m *model) do(d impl.Deed) int64 {
	stations, wire := m.plant.Stations, m.plant.Wire
	isStation, isParcel := d.A < int64(len(stations)), d.A < int64(len(wire))
	switch d.Kind {
	case impl.DdSend:
		if !isStation || d.B >= int64(len(stations)) || d.A == d.B || d.B == 0 || d.C >= 1<<len(stations[d.A].Rows) {
			return impl.ErrRange
		} else if d.C == 0 {
			return impl.ErrState
		} else if len(wire) == 12 {
			return impl.ErrLimit
		}
		m.plant.Wire = append(wire, impl.Parcel{To: d.B, Row: sumOf(stations[d.A].Rows, d.C)})
		return impl.OK
	case impl.DdSave, impl.DdCrash, impl.DdForget:
		if !isStation {
			return impl.ErrRange
		}
		s := &stations[d.A]
		switch d.Kind {
		case impl.DdSave:
			s.Saved = slices.Clone(s.Rows)
		case impl.DdCrash:
			s.Rows = slices.Clone(s.Saved)
		case impl.DdForget:
			s.Rows = nil
		}
		return impl.OK
	}
	if !isParcel || d.Kind == impl.DdSpoil && (d.B == 0 || d.B >= 1<<(m.v.Packets+m.v.Payload)) {
		return impl.ErrRange
	}
	if d.Kind == impl.DdSpoil {
		wire[d.A].Row ^= d.B
		return impl.OK
	}
	if d.Kind != impl.DdDrop {
		m.comesIn(wire[d.A])
	}
	if d.Kind != impl.DdCopy {
		m.plant.Wire = slices.Concat(wire[:d.A], wire[d.A+1:])
	}
	return impl.OK
}

// comesIn looks at all sums of what is kept.
func (m *model) comesIn(p impl.Parcel) {
	s := &m.plant.Stations[p.To]
	if !setOf(s.Rows).has[p.Row] {
		s.Rows = append(slices.Clone(s.Rows), p.Row)
	}
}

// sums are all sums of what a station keeps.
func (m *model) sums(station int64) []int64 {
	return setOf(m.plant.Stations[station].Rows).list
}

// rank is the dimension of the sums of the first columns.
func (m *model) rank(station int64) int64 {
	var firsts []int64
	for _, r := range m.plant.Stations[station].Rows {
		firsts = append(firsts, firstsOf(m.v, r))
	}
	return dimensionOf(setOf(firsts).list)
}

// spoilt is the dimension of the sums whose first columns are 0.
func (m *model) spoilt(station int64) int64 {
	return dimensionOf(slices.DeleteFunc(m.sums(station), func(r int64) bool { return firstsOf(m.v, r) != 0 }))
}

// data looks among all sums for those with the first columns of single rows.
func (m *model) data(station int64) ([]int64, int64) {
	if m.spoilt(station) > 0 {
		return nil, impl.ErrProof
	}
	if m.rank(station) < m.v.Packets {
		return nil, impl.ErrNotFound
	}
	data := []int64{}
	for i := range m.v.Packets {
		for _, r := range m.sums(station) {
			if firstsOf(m.v, r) == 1<<i {
				data = append(data, behindOf(m.v, r))
			}
		}
	}
	return data, impl.OK
}

// missOf is the rank of the misses of packets.
func missOf(v impl.Gather, rows, data []int64) int64 {
	var misses []int64
	for _, r := range rows {
		misses = append(misses, behindOf(v, r)^sumOf(data, firstsOf(v, r)))
	}
	return dimensionOf(setOf(misses).list)
}

// mendsOf are all data with the least miss, and this.
func mendsOf(v impl.Gather, rows []int64) ([][]int64, int64) {
	least, list := int64(math.MaxInt64), [][]int64(nil)
	for _, data := range orderedLists(impl.Field{Degree: v.Payload}, int(v.Packets)) {
		miss := missOf(v, rows, data)
		if miss < least {
			least, list = miss, nil
		}
		if miss == least {
			list = append(list, data)
		}
	}
	return list, least
}

// knows asks whether a station knows the data of the source.
func (m *model) knows(station int64) bool {
	data, code := m.data(station)
	return code == impl.OK && slices.Equal(data, m.v.Data)
}

// plan are the texts of the deeds that are left to be done, separated by commas.
func (m *model) plan() string {
	var texts []string
	for range m.plant.Wire {
		texts = append(texts, "drop 0")
	}
	if int64(len(m.plant.Stations[0].Rows)) < m.v.Packets {
		texts = append(texts, "crash 0")
	}
	for station := 1 + m.v.Relays; station < stationsOf(m.v); station++ {
		if m.knows(station) {
			continue
		}
		texts = append(texts, fmt.Sprint("forget ", station))
		for i := range m.v.Packets {
			texts = append(texts, fmt.Sprint("send 0 ", station, " ", 1<<i), "deliver 0")
		}
		texts = append(texts, fmt.Sprint("save ", station))
	}
	return strings.Join(texts, ", ")
}

// answer is what a line of a script answers.
func (m *model) answer(line string) string {
	if deedPattern.MatchString(line) {
		if code := m.do(deedOf(line)); code != impl.OK {
			return "error " + impl.CodeName(code)
		}
		return "ok"
	}
	for station := range stationsOf(m.v) {
		switch line {
		case fmt.Sprint("rank ", station):
			return fmt.Sprint(m.rank(station), m.spoilt(station))
		case fmt.Sprint("data ", station):
			data, code := m.data(station)
			if code != impl.OK {
				return "error " + impl.CodeName(code)
			}
			return strings.Trim(fmt.Sprint(data), "[]")
		}
	}
	return "what"
}

// drawnDeed can be done most of the time; spoiling, if it is wanted, is not too often. If the line is busy, more is sent than delivered.
func (m *model) drawnDeed(draw *lot, spoils bool) impl.Deed {
	station, other := draw.below(stationsOf(m.v)), 1+draw.below(stationsOf(m.v))
	parcel := draw.below(int64(len(m.plant.Wire)) + 1)
	if parcel > 0 && draw.below(8) > 0 {
		parcel--
	}
	switch kind := draw.below(24); {
	case kind < 9 || m.busy && kind < 14:
		kept := len(m.plant.Stations[station].Rows)
		if kept == 0 && draw.below(8) > 0 {
			return impl.Deed{Kind: impl.DdSend, B: other, C: 1}
		}
		chosen := draw.below(1 << kept)
		if draw.below(8) > 0 {
			chosen = 1 + draw.below(1<<kept)
		}
		return impl.Deed{Kind: impl.DdSend, A: station, B: other, C: chosen}
	case kind < 16:
		return impl.Deed{Kind: impl.DdDeliver, A: parcel}
	case kind < 18:
		return impl.Deed{Kind: impl.DdCopy, A: parcel}
	case kind < 19:
		return impl.Deed{Kind: impl.DdDrop, A: parcel}
	case kind < 21 && spoils:
		return impl.Deed{Kind: impl.DdSpoil, A: parcel, B: draw.below(1<<(m.v.Packets+m.v.Payload) + 1)}
	case kind < 22:
		return impl.Deed{Kind: impl.DdSave, A: station}
	case kind < 23:
		return impl.Deed{Kind: impl.DdCrash, A: station}
	default:
		// The source forgets rarely, as not much comes behind that.
		return impl.Deed{Kind: impl.DdForget, A: max(station, min(1, draw.below(6)))}
	}
}

// drawnDeeds are so many of them.
func drawnDeeds(v impl.Gather, seed, number int64, spoils bool) []impl.Deed {
	draw, m := lot(seed*41+9), modelOf(v)
	m.busy = seed%3 == 0
	deeds := []impl.Deed{}
	for range number {
		d := m.drawnDeed(&draw, spoils)
		m.do(d)
		deeds = append(deeds, d)
	}
	return deeds
}

// checkPlant asks for what is, for the number of deeds that have been done, and for the first one that is left out.
func checkPlant(t *testing.T, name string, m *model, deeds []impl.Deed) {
	t.Helper()
	plant, done, code := impl.PlantAfter(m.v, deeds)
	is(t, name+" plant", fmt.Sprint(m.plant, m.done, impl.OK), fmt.Sprint(plant, done, code))
	place, fault, code := impl.RefusedDeed(m.v, deeds)
	if len(m.refused) == 0 {
		is(t, name+" refused", fmt.Sprint(0, 0, impl.ErrNotFound), fmt.Sprint(place, fault, code))
	} else {
		is(t, name+" refused", fmt.Sprint(m.refused[0], m.codes[0], impl.OK), fmt.Sprint(place, fault, code))
	}
}

// checkStations asks for what stations know.
func checkStations(t *testing.T, name string, m *model, deeds []impl.Deed) {
	t.Helper()
	for station := range stationsOf(m.v) {
		at := fmt.Sprint(name, " at ", station)
		value(t, at+" rank", m.rank(station))(impl.RankAfter(m.v, deeds, station))
		value(t, at+" spoilt", m.spoilt(station))(impl.SpoiltAfter(m.v, deeds, station))
		if data, code := m.data(station); code == impl.OK {
			listed(t, at+" data", data)(impl.DataAfter(m.v, deeds, station))
		} else {
			refusedList(t, at+" data", code)(impl.DataAfter(m.v, deeds, station))
		}
	}
}

// checkMends asks for the data that miss least.
func checkMends(t *testing.T, name string, m *model, deeds []impl.Deed, station int64) int64 {
	t.Helper()
	data, least, code := impl.MendAfter(m.v, deeds, station)
	got := fmt.Sprint(data, least, code)
	name = fmt.Sprint(name, " mended at ", station)
	if m.v.Packets*m.v.Payload > 10 {
		is(t, name, fmt.Sprint([]int64{}, 0, impl.ErrLimit), got)
		return impl.ErrLimit
	}
	list, least := mendsOf(m.v, m.plant.Stations[station].Rows)
	if len(list) > 1 {
		is(t, name, fmt.Sprint([]int64{}, 0, impl.ErrState), got)
		return impl.ErrState
	}
	is(t, name, fmt.Sprint(list[0], least, impl.OK), got)
	return impl.OK
}

// checkPlan asks for deeds that can be done, behind which all receivers know the data.
func checkPlan(t *testing.T, name string, m *model, deeds []impl.Deed) {
	t.Helper()
	name += " plan"
	plan, code := impl.FinishDeeds(m.v, deeds)
	want := m.plan()
	if int64(len(m.plant.Stations[0].Saved)) < m.v.Packets {
		refusedDeeds(t, name, impl.ErrState)(plan, code)
		return
	}
	if len(deeds)+len(deedsOf(want)) > 300 {
		refusedDeeds(t, name, impl.ErrLimit)(plan, code)
		return
	}
	is(t, name, fmt.Sprint(want, impl.OK), fmt.Sprint(textsOfDeeds(plan), code))
	whole := slices.Concat(deeds, plan)
	after, done, code := impl.PlantAfter(m.v, whole)
	is(t, name+" done", fmt.Sprint(m.done+int64(len(plan)), impl.OK), fmt.Sprint(done, code))
	is(t, name+" wire", 0, len(after.Wire))
	for station := 1 + m.v.Relays; station < stationsOf(m.v); station++ {
		listed(t, fmt.Sprint(name, " at ", station), m.v.Data)(impl.DataAfter(m.v, whole, station))
	}
	again, code := impl.FinishDeeds(m.v, whole)
	is(t, name+" again", fmt.Sprint("", impl.OK), fmt.Sprint(textsOfDeeds(again), code))
}

// checkAll asks for everything but mended data.
func checkAll(t *testing.T, v impl.Gather, deeds []impl.Deed) *model {
	t.Helper()
	name := fmt.Sprint(v, " behind ", textsOfDeeds(deeds))
	m := modelAfter(v, deeds)
	checkPlant(t, name, m, deeds)
	checkStations(t, name, m, deeds)
	checkPlan(t, name, m, deeds)
	return m
}

// deedRead asks for a deed and OK.
func deedRead(t *testing.T, name string, want impl.Deed) func(got impl.Deed, code int64) {
	return func(got impl.Deed, code int64) {
		t.Helper()
		is(t, name, fmt.Sprint(want, impl.OK), fmt.Sprint(got, code))
	}
}

// refusedDeed asks for an error and no deed.
func refusedDeed(t *testing.T, name string, want int64) func(got impl.Deed, code int64) {
	return func(got impl.Deed, code int64) {
		t.Helper()
		is(t, name, fmt.Sprint(impl.Deed{}, want), fmt.Sprint(got, code))
	}
}

// refusedDeeds asks for an error and no deeds.
func refusedDeeds(t *testing.T, name string, want int64) func(got []impl.Deed, code int64) {
	return func(got []impl.Deed, code int64) {
		t.Helper()
		is(t, name, fmt.Sprint("[] ", want), fmt.Sprint(got, " ", code))
	}
}

// refusedPlant asks for an error, no plant and no number of deeds.
func refusedPlant(t *testing.T, name string, want int64) func(got impl.Plant, done, code int64) {
	return func(got impl.Plant, done, code int64) {
		t.Helper()
		is(t, name, fmt.Sprint(impl.Plant{}, 0, want), fmt.Sprint(got, done, code))
	}
}

// refusedPlace asks for an error, and 0 and 0.
func refusedPlace(t *testing.T, name string, want int64) func(place, fault, code int64) {
	return func(place, fault, code int64) {
		t.Helper()
		is(t, name, fmt.Sprint(0, 0, want), fmt.Sprint(place, fault, code))
	}
}

// mended asks for data, a rank and OK.
func mended(t *testing.T, name string, want []int64, wantLeast int64) func(got []int64, least, code int64) {
	return func(got []int64, least, code int64) {
		t.Helper()
		is(t, name, fmt.Sprint(want, wantLeast, impl.OK), fmt.Sprint(got, least, code))
	}
}

// refusedMend asks for an error, no data and the rank 0.
func refusedMend(t *testing.T, name string, want int64) func(got []int64, least, code int64) {
	return func(got []int64, least, code int64) {
		t.Helper()
		is(t, name, fmt.Sprint([]int64{}, 0, want), fmt.Sprint(got, least, code))
	}
}

// answered asks for a text and OK.
func answered(t *testing.T, name, want string) func(got string, code int64) {
	return func(got string, code int64) {
		t.Helper()
		if got != want || code != impl.OK {
			t.Errorf("%s: got %q with the code %d, want %q with 0", name, got, code, want)
		}
	}
}

// refusedScript asks for an error and no text.
func refusedScript(t *testing.T, name string, want int64) func(got string, code int64) {
	return func(got string, code int64) {
		t.Helper()
		if got != "" || code != want {
			t.Errorf("%s: got %q with the code %d, want no text with %d", name, got, code, want)
		}
	}
}
