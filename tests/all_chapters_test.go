package tests

import (
	"fmt"
	"slices"
	"testing"

	"loop.example/g01144/impl"
)

// Promise 23: what is encoded is decoded behind small errors, as a word, as a space and behind a network, and distances are ranks everywhere.

// sentWord is a word on its way, with an error of a rank up to the radius.
type sentWord struct {
	g                       impl.Gabidulin
	message, w, error, came []int64
	rank                    int64
}

// sentWords have all ranks up to the radius.
func sentWords(t *testing.T, g impl.Gabidulin) []sentWord {
	t.Helper()
	var list []sentWord
	radius, code := impl.RadiusOf(g)
	is(t, fmt.Sprint(g, " radius"), impl.OK, code)
	for rank := range radius + 1 {
		for i, message := range someMessages(g) {
			w, code := impl.EncodeGabidulin(g, message)
			is(t, fmt.Sprint(g, " word of ", message), impl.OK, code)
			e := errorOfRank(g.Field, lengthOf(g), rank, int64(i)*5+rank)
			list = append(list, sentWord{g, message, w, e, sumOfWords(w, e), rank})
		}
	}
	return list
}

// everySentWord is sent with a Gabidulin code with at most so many points and messages, of any field.
func everySentWord(t *testing.T, points, most int64, try func(name string, s sentWord)) {
	t.Helper()
	for _, f := range allFields() {
		for _, g := range fewGabidulins(f, most) {
			if lengthOf(g) > points {
				continue
			}
			for _, s := range sentWords(t, g) {
				try(fmt.Sprint(g, " message ", s.message, " error ", s.error), s)
			}
		}
	}
}

// gather sends the word of a message through relays to receivers, an element a packet.
func (s sentWord) gather(relays, receivers int64) impl.Gather {
	return gatherOf(s.g.Field.Degree, relays, receivers, s.w...)
}

func TestWordsAreDecodedEverywhere(t *testing.T) {
	found := 0
	everySentWord(t, 5, 1<<20, func(name string, s sentWord) {
		f := s.g.Field
		found++
		value(t, name+" rank", s.rank)(impl.WordRank(f, s.error))
		value(t, name+" distance", s.rank)(impl.WordDistance(f, s.w, s.came))
		a, code := impl.WordMatrix(f, s.error)
		is(t, name+" matrix", impl.OK, code)
		value(t, name+" rank of the matrix", s.rank)(impl.RankOf(a))
		decoded(t, name, s.message, s.rank)(impl.DecodeGabidulin(s.g, s.came))
		locator, code := impl.ErrorLocator(s.g, s.came)
		is(t, name+" locator", fmt.Sprint(s.rank+1, impl.OK), fmt.Sprint(len(locator), code))
		for _, x := range s.error {
			value(t, name+" locator of an element", 0)(impl.ValueOf(f, locator, x))
		}
		listed(t, name+" interpolated", cut(slices.Clone(s.message)))(impl.InterpolateLinear(f, s.g.Points, s.w))
		if lengthOf(s.g) == f.Degree {
			rank, _ := impl.WordRank(f, s.w)
			value(t, name+" rank of values", rank)(impl.RankOfLinear(f, cut(slices.Clone(s.message))))
		}
	})
	is(t, "there are some", true, found > 1000)
}

func TestWordsAreNearestInTheirCodes(t *testing.T) {
	everySentWord(t, 5, 300, func(name string, s sentWord) {
		c, code := impl.CodeOfGabidulin(s.g)
		is(t, name+" code", impl.OK, code)
		nearest(t, name+" nearest", s.rank, [][]int64{s.w})(impl.NearestWords(c, s.came))
		message, code := impl.MessageOf(c, s.w)
		is(t, name+" message of the code", impl.OK, code)
		listed(t, name+" word of the code", s.w)(impl.EncodeWith(c, message))
		value(t, name+" least rank", lengthOf(s.g)-s.g.Dimension+1)(impl.LeastRank(c))
		listedWords(t, name+" list", [][]int64{s.message})(impl.ListWithin(s.g, s.came, s.rank))
	})
}

// TestSpacesAreDecodedEverywhere lifts words with errors, and mixes the rows of spaces.
func TestSpacesAreDecodedEverywhere(t *testing.T) {
	everySentWord(t, 5, 1100, func(name string, s sentWord) {
		f := s.g.Field
		u, one := impl.LiftWord(f, s.w)
		v, two := impl.LiftWord(f, s.came)
		is(t, name+" lifted", "0 0", fmt.Sprint(one, two))
		value(t, name+" distance of spaces", 2*s.rank)(impl.DistanceOf(u, v))
		decoded(t, name+" lifted", s.message, 2*s.rank)(impl.DecodeLifted(s.g, v))
		listed(t, name+" unlifted", s.came)(impl.UnliftSpace(f, lengthOf(s.g), v))
		// Errors behind the places alone are those of the word.
		errors := impl.Matrix{Cols: u.Cols}
		for _, a := range s.error {
			errors.Rows = append(errors.Rows, a<<lengthOf(s.g))
		}
		received, code := impl.SendThrough(u, identity(lengthOf(s.g)), errors)
		is(t, name+" received", impl.OK, code)
		decoded(t, name+" received", s.message, s.rank)(impl.DecodeLifted(s.g, received))
		list, least := []impl.Matrix{u}, s.rank
		nearestAt(t, name+" nearest of one", least, []int64{0})(impl.NearestSpaces(list, received))
	})
}

// packetsAt are what comes into a node, each behind its vector.
func packetsAt(t *testing.T, n impl.Net, node int64, values []int64) []int64 {
	t.Helper()
	vectors, code := impl.BitMatrix(n, node)
	is(t, "vectors", impl.OK, code)
	var rows []int64
	for i, r := range vectors.Rows {
		rows = append(rows, r+values[i]<<n.Messages)
	}
	return rows
}

// checkBehindNetwork follows a word through a network of bits, with errors on some edges, to a node.
func checkBehindNetwork(t *testing.T, name string, s sentWord, n impl.Net, node int64, errors []int64) {
	t.Helper()
	values, one := impl.DeliveredWith(n, s.w, errors, node)
	without, two := impl.Delivered(n, s.w, node)
	rank, three := impl.RankAt(n, node)
	is(t, name+" codes", "0 0 0", fmt.Sprint(one, two, three))
	if len(values) == 0 || len(values) > 10 {
		return
	}
	// The packets that come in miss the rank of what the errors add.
	rows, added := packetsAt(t, n, node, values), rankOfWord(sumOfWords(values, without))
	value(t, name+" missed", added)(impl.MissedBy(s.gather(0, 1), rows, s.w))
	u, _ := impl.LiftWord(s.g.Field, s.w)
	received, code := impl.SpaceOf(impl.Matrix{Cols: u.Cols, Rows: rows})
	is(t, name+" space", impl.OK, code)
	distance, _ := impl.DistanceOf(u, received)
	is(t, name+" distance", true, distance <= lengthOf(s.g)-rank+2*added)
	most := lengthOf(s.g) - s.g.Dimension
	if distance <= most {
		decoded(t, name+" space", s.message, distance)(impl.DecodeLifted(s.g, received))
	}
	if rank == lengthOf(s.g) {
		is(t, name+" distance with a full rank", true, distance <= 2*added)
		listed(t, name+" decoded", s.message)(impl.DecodeAt(n, node, s.g, values))
	}
}

// TestNetworksDeliverWhatIsEncoded has errors on at most as many edges as the radius.
func TestNetworksDeliverWhatIsEncoded(t *testing.T) {
	found := 0
	for _, f := range allFields() {
		for _, g := range fewGabidulins(f, 1024) {
			if lengthOf(g) > 3 {
				continue
			}
			nets, list := bitNets(f, lengthOf(g)), sentWords(t, g)
			for i, s := range list {
				for k := range 4 {
					n := nets[(i*7+k*11)%len(nets)]
					if int64(len(n.Edges)) < s.rank {
						continue
					}
					for node := int64(1); node < n.Nodes; node++ {
						for edge := range int64(len(n.Edges)) {
							errors := make([]int64, len(n.Edges))
							if s.rank > 0 {
								errors[edge] = 1 + (edge+int64(i))%(sizeOf(f)-1)
							}
							found++
							checkBehindNetwork(t, fmt.Sprint(n, " to ", node, " ", g, s.message, errors), s, n, node, errors)
							if s.rank == 0 {
								break
							}
						}
					}
				}
			}
		}
	}
	is(t, "there are some", true, found > 1000)
}

// TestFilledNetworksDeliverWhatIsEncoded need no bits: what the node solves is the word.
func TestFilledNetworksDeliverWhatIsEncoded(t *testing.T) {
	everySentWord(t, 3, 300, func(name string, s sentWord) {
		if lengthOf(s.g)*s.g.Field.Degree > 12 {
			// There would be too many lists of coefficients.
			return
		}
		n := netWith(s.g.Field, lengthOf(s.g), shapeOf(4, "01 01 02 13 13 23"), constant(0))
		full, code := impl.FillCoefs(n, []int64{3})
		is(t, name+" filled", impl.OK, code)
		values, code := impl.Delivered(full, s.came, 3)
		is(t, name+" delivered", impl.OK, code)
		solved, code := impl.SolveAt(full, 3, values)
		is(t, name+" solved", fmt.Sprint(s.came, impl.OK), fmt.Sprint(solved, code))
		decoded(t, name+" decoded", s.message, s.rank)(impl.DecodeGabidulin(s.g, solved))
	})
}

// spoiltWord are deeds by which a station gets all packets of a word with an error, one by one, and on their way through a relay, if there is one.
func spoiltWord(s sentWord, v impl.Gather) []impl.Deed {
	var deeds []impl.Deed
	station := stationsOf(v) - 1
	for i, a := range s.error {
		to := station
		if v.Relays > 0 {
			to = 1
		}
		deeds = append(deeds, impl.Deed{Kind: impl.DdSend, B: to, C: 1 << i})
		if a > 0 {
			deeds = append(deeds, impl.Deed{Kind: impl.DdSpoil, B: a << lengthOf(s.g)})
		}
		deeds = append(deeds, impl.Deed{Kind: impl.DdDeliver})
	}
	for i := range s.error {
		if v.Relays > 0 {
			// Each of these sums has one packet more than the one before.
			deeds = append(deeds, impl.Deed{Kind: impl.DdSend, A: 1, B: station, C: 2<<i - 1}, impl.Deed{Kind: impl.DdDeliver})
		}
	}
	return deeds
}

// TestGatheredWordsAreDecoded spoils packets as an error tells.
func TestGatheredWordsAreDecoded(t *testing.T) {
	found := 0
	everySentWord(t, 4, 1100, func(name string, s sentWord) {
		found++
		v := s.gather(int64(found)%4, 1+int64(found)%3)
		u, _ := impl.LiftWord(s.g.Field, s.w)
		listed(t, name+" packets", u.Rows)(impl.SourceRows(v))
		came, _ := impl.LiftWord(s.g.Field, s.came)
		value(t, name+" missed", s.rank)(impl.MissedBy(v, came.Rows, s.w))
		value(t, name+" missed the other way", s.rank)(impl.MissedBy(v, u.Rows, s.came))
		deeds, station := spoiltWord(s, v), stationsOf(v)-1
		plant, done, code := impl.PlantAfter(v, deeds)
		is(t, name+" done", fmt.Sprint(len(deeds), impl.OK), fmt.Sprint(done, code))
		kept := plant.Stations[station].Rows
		value(t, name+" missed by what is kept", s.rank)(impl.MissedBy(v, kept, s.w))
		value(t, name+" spoilt", 0)(impl.SpoiltAfter(v, deeds, station))
		// The station takes what has come for the data, and decodes it.
		listed(t, name+" data", s.came)(impl.DataAfter(v, deeds, station))
		decoded(t, name+" data", s.message, s.rank)(impl.DecodeGabidulin(s.g, s.came))
		received, code := impl.SpaceOf(impl.Matrix{Cols: u.Cols, Rows: kept})
		is(t, name+" space", fmt.Sprint(came, impl.OK), fmt.Sprint(received, code))
		decoded(t, name+" space", s.message, 2*s.rank)(impl.DecodeLifted(s.g, received))
		if v.Packets*v.Payload <= 10 {
			mended(t, name+" mended", s.came, 0)(impl.MendAfter(v, deeds, station))
		}
		// Behind the plan, there is no error any more.
		plan, code := impl.FinishDeeds(v, deeds)
		is(t, name+" plan", impl.OK, code)
		data, _ := impl.DataAfter(v, slices.Concat(deeds, plan), station)
		decoded(t, name+" behind the plan", s.message, 0)(impl.DecodeGabidulin(s.g, data))
	})
	is(t, "there are some", true, found > 1000)
}

// TestGatheredSpacesAreDecoded loses packets and spoils them in any columns: the space of what is kept is near enough if both are few.
func TestGatheredSpacesAreDecoded(t *testing.T) {
	near := 0
	for i, f := range allFields() {
		for k, g := range fewGabidulins(f, 260) {
			if lengthOf(g) > 4 || g.Dimension == lengthOf(g) {
				continue
			}
			message := someMessages(g)[k%3]
			w, _ := impl.EncodeGabidulin(g, message)
			u, _ := impl.LiftWord(f, w)
			v := gatherOf(f.Degree, 1, 1, w...)
			most := lengthOf(g) - g.Dimension
			for seed := range int64(12) {
				deeds := drawnDeeds(v, seed*31+int64(i+k), 12+seed*2, seed%4 > 0)
				plant, _, _ := impl.PlantAfter(v, deeds)
				for station := range int64(3) {
					name := fmt.Sprint(g, message, " behind ", textsOfDeeds(deeds), " at ", station)
					kept := plant.Stations[station].Rows
					received, code := impl.SpaceOf(impl.Matrix{Cols: u.Cols, Rows: kept})
					is(t, name+" space", impl.OK, code)
					distance, _ := impl.DistanceOf(u, received)
					missed, _ := impl.MissedBy(v, kept, w)
					is(t, name+" distance", int64(len(u.Rows)-len(kept))+2*missed, distance)
					if distance <= most {
						near++
						decoded(t, name, message, distance)(impl.DecodeLifted(g, received))
					}
				}
			}
		}
	}
	is(t, "there are some", true, near > 300)
}

// TestDistancesAreRanksEverywhere compares any two words.
func TestDistancesAreRanksEverywhere(t *testing.T) {
	for _, f := range allFields() {
		for length := int64(1); length <= 4; length++ {
			for seed := range int64(40) {
				one, two := mixedWord(f, length, seed), mixedWord(f, length, seed*3+1)
				name := fmt.Sprint(f, one, two)
				rank, code := impl.WordRank(f, sumOfWords(one, two))
				is(t, name+" rank", fmt.Sprint(rankOfWord(sumOfWords(one, two)), impl.OK), fmt.Sprint(rank, code))
				value(t, name+" distance", rank)(impl.WordDistance(f, one, two))
				u, _ := impl.LiftWord(f, one)
				v, _ := impl.LiftWord(f, two)
				value(t, name+" distance of spaces", 2*rank)(impl.DistanceOf(u, v))
				dual, _ := impl.DualSpace(u)
				other, _ := impl.DualSpace(v)
				value(t, name+" distance of duals", 2*rank)(impl.DistanceOf(dual, other))
				value(t, name+" miss", rank)(impl.MissedBy(gatherOf(f.Degree, 0, 1, one...), v.Rows, one))
				value(t, name+" miss", rank)(impl.MissedBy(gatherOf(f.Degree, 0, 1, one...), u.Rows, two))
				a, _ := impl.WordMatrix(f, one)
				b, _ := impl.WordMatrix(f, two)
				sum, _ := impl.AddMatrices(a, b)
				value(t, name+" rank of the sum", rank)(impl.RankOf(sum))
				turned, _ := impl.TurnMatrix(sum)
				value(t, name+" rank of the turned sum", rank)(impl.RankOf(turned))
			}
		}
	}
}

// TestAWordOnItsWay is one whose numbers are known in all chapters.
func TestAWordOnItsWay(t *testing.T) {
	f, _ := impl.FieldOf(3)
	g, _ := impl.FirstGabidulin(f, 3, 1)
	listed(t, "word", []int64{3, 6, 7})(impl.EncodeGabidulin(g, []int64{3}))
	v := gatherOf(3, 1, 1, 3, 6, 7)
	listed(t, "packets", []int64{25, 50, 60})(impl.SourceRows(v))
	u, _ := impl.LiftWord(f, []int64{3, 6, 7})
	is(t, "rows of the space", []int64{25, 50, 60}, u.Rows)
	// The error 1, 1, 0 has the rank 1.
	deeds := deedsOf("send 0 1 1, spoil 0 8, deliver 0, send 0 1 2, spoil 0 8, deliver 0, send 0 1 4, deliver 0, send 1 2 1, deliver 0, send 1 2 3, deliver 0, send 1 2 7, deliver 0")
	plant, done, _ := impl.PlantAfter(v, deeds)
	is(t, "kept", "[17 43 23] 14", fmt.Sprint(plant.Stations[2].Rows, " ", done))
	value(t, "missed", 1)(impl.MissedBy(v, plant.Stations[2].Rows, v.Data))
	listed(t, "data", []int64{2, 7, 7})(impl.DataAfter(v, deeds, 2))
	decoded(t, "message", []int64{3}, 1)(impl.DecodeGabidulin(g, []int64{2, 7, 7}))
	mended(t, "mended", []int64{2, 7, 7}, 0)(impl.MendAfter(v, deeds, 2))
	received, _ := impl.SpaceOf(impl.Matrix{Cols: 6, Rows: plant.Stations[2].Rows})
	decoded(t, "space", []int64{3}, 2)(impl.DecodeLifted(g, received))
	n := impl.Net{Field: f, Nodes: 3, Messages: 3, Edges: [][]int64{{0, 1}, {0, 1}, {0, 2}, {1, 2}, {1, 2}}, Coefs: [][]int64{{1, 0, 0}, {1, 1, 0}, {0, 1, 1}, {1, 0}, {1, 1}}}
	came, _ := impl.DeliveredWith(n, []int64{3, 6, 7}, []int64{0, 5, 0, 0, 0}, 2)
	listed(t, "network", []int64{3})(impl.DecodeAt(n, 2, g, came))
}
