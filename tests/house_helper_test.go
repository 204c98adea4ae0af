package tests

import (
	"math"
	"math/rand/v2"
	"slices"
	"testing"

	"loop.example/concierge/impl"
)

// hear is what HouseHear answers.
type hear struct {
	house impl.House
	word  impl.Word
	ok    bool
}

func heard(h impl.House, w impl.Word) hear {
	house, word, ok := impl.HouseHear(h, w)
	return hear{house, word, ok}
}

func sameHouse(a, b impl.House) bool {
	return a.Id == b.Id && a.Up == b.Up && a.Room == b.Room && sameLog(a.Log, b.Log)
}

func sameHear(a, b hear) bool {
	return sameHouse(a.house, b.house) && a.word == b.word && a.ok == b.ok
}

func isNoHouse(h impl.House) bool {
	return h.Id == 0 && !h.Up && h.Room == 0 && isNoLog(h.Log)
}

// stays says whether a word changed nothing, and was not answered.
func stays(x hear, h impl.House) bool {
	return sameHear(x, hear{house: h})
}

// houseWith is a house that is up, and wrote these records down, so many of which are forced.
func houseWith(id, room, forced int, recs ...impl.Rec) impl.House {
	return impl.House{Id: id, Up: true, Room: room, Log: impl.Log{Recs: recs, Forced: forced}}
}

func holdRec(trip, many int) impl.Rec {
	return impl.Rec{Kind: impl.RecHold, Trip: trip, Many: []int{many}}
}

func closeRec(trip int) impl.Rec {
	return impl.Rec{Kind: impl.RecClose, Trip: trip}
}

func undoRec(trip int) impl.Rec {
	return impl.Rec{Kind: impl.RecUndo, Trip: trip}
}

// wordsTo is each word in form of one house and one trip, answers too.
func wordsTo(house, trip int) []impl.Word {
	var out []impl.Word
	for many := 1; many <= 3; many++ {
		out = append(out, impl.Word{Kind: 1, House: house, Trip: trip, Many: many})
	}
	for kind := 2; kind <= 7; kind++ {
		out = append(out, impl.Word{Kind: kind, House: house, Trip: trip})
	}
	return out
}

// wordsToAll is wordsTo of each trip.
func wordsToAll(house int) []impl.Word {
	var out []impl.Word
	for trip := 1; trip <= 6; trip++ {
		out = append(out, wordsTo(house, trip)...)
	}
	return out
}

// houseOkByDocument says once more what the document does, with its numbers written out.
func houseOkByDocument(h impl.House) bool {
	if h.Id < 1 || h.Id > 3 || h.Log.Forced < 0 || h.Log.Forced > len(h.Log.Recs) || len(h.Log.Recs) > 40 {
		return false
	}
	_, ok := stockOfByDocument(h.Room, h.Log.Recs)
	return ok
}

// stateByDocument is what a trip of an ok house has, by all records, or by the forced ones alone.
func stateByDocument(h impl.House, trip int, forced bool) int {
	recs := h.Log.Recs
	if forced {
		recs = recs[:h.Log.Forced]
	}
	s, _ := stockOfByDocument(h.Room, recs)
	return s.Holds[trip-1].State
}

// hearByDocument is of an ok house.
func hearByDocument(h impl.House, w impl.Word) hear {
	if !h.Up || !wordOkByDocument(w) || w.House != h.Id || w.Kind > 3 {
		return hear{house: h}
	}
	r := impl.Rec{Kind: w.Kind, Trip: w.Trip}
	if w.Kind == 1 {
		r.Many = []int{w.Many}
	}
	if all, _ := stockOfByDocument(h.Room, h.Log.Recs); mayByDocument(all, r) {
		h.Log.Recs = append(slices.Clone(h.Log.Recs), r)
		return hear{house: h}
	}
	kind := answerByDocument(w.Kind, stateByDocument(h, w.Trip, false), stateByDocument(h, w.Trip, true))
	if kind == 0 {
		return hear{house: h}
	}
	return hear{h, impl.Word{Kind: kind, House: h.Id, Trip: w.Trip}, true}
}

// answerByDocument is the kind of the answer to a word whose record may not come, by what its trip has by all, and by what was forced; 0, if there is none.
func answerByDocument(kind, all, forced int) int {
	switch {
	case kind == 1 && all == 0:
		return 5
	case kind == 1 && (forced == 1 || forced == 2):
		return 4
	case kind == 1 && forced == 3:
		return 5
	case kind == 2 && forced == 2:
		return 6
	case kind == 3 && forced == 3:
		return 7
	}
	return 0
}

// growRecs calls f with these records, and with all that may come behind them of some trips, one by one.
func growRecs(room int, recs []impl.Rec, trips []int, f func(recs []impl.Rec)) {
	f(recs)
	s, _ := stockOfByDocument(room, recs)
	for _, trip := range trips {
		for _, r := range recsOf(trip)[:5] {
			if mayByDocument(s, r) {
				growRecs(room, append(slices.Clone(recs), r), trips, f)
			}
		}
	}
}

// eachForced calls f with houses that are up, of which each number of records is forced.
func eachForced(id, room int, recs []impl.Rec, f func(h impl.House)) {
	for forced := range len(recs) + 1 {
		f(houseWith(id, room, forced, slices.Clone(recs)...))
	}
}

// eachHouse calls f with houses that are up: all that one trip, and two, can have written down, and many of which all trips may have something.
func eachHouse(f func(h impl.House)) {
	for trip := 1; trip <= 6; trip++ {
		for room := 0; room <= 9; room++ {
			growRecs(room, nil, []int{trip}, func(recs []impl.Rec) {
				eachForced(1+room%3, room, recs, f)
			})
		}
	}
	for _, room := range []int{1, 4} {
		growRecs(room, nil, []int{2, 6}, func(recs []impl.Rec) {
			eachForced(1+room%3, room, recs, f)
		})
	}
	dice := rand.New(rand.NewPCG(30, 43))
	for walk := range 150 {
		eachForced(1+walk%3, walk%10, thrownRecs(dice, walk%10), f)
	}
}

// thrownRecs is records of all trips, each of which may come behind those before.
func thrownRecs(dice *rand.Rand, room int) []impl.Rec {
	var recs []impl.Rec
	s := impl.Stock{Room: room, Holds: noHolds()}
	for range 5 + dice.IntN(30) {
		r := recsOf(dice.IntN(6) + 1)[dice.IntN(5)]
		if mayByDocument(s, r) {
			s, recs = doneByDocument(s, r), append(recs, r)
		}
	}
	return recs
}

// eachHear calls f with houses that are up, words to them in form, answers too, and what they answer.
func eachHear(f func(h impl.House, w impl.Word, behind hear)) {
	words := map[int][]impl.Word{1: wordsToAll(1), 2: wordsToAll(2), 3: wordsToAll(3)}
	eachHouse(func(h impl.House) {
		for _, w := range words[h.Id] {
			f(h, w, heard(h, w))
		}
	})
}

// noStocks is ok records that make no stock, of any room.
func noStocks() [][]impl.Rec {
	return [][]impl.Rec{
		{closeRec(1)},
		{holdRec(1, 1), holdRec(1, 1)},
		{holdRec(1, 1), closeRec(2)},
		{holdRec(1, 1), closeRec(1), closeRec(1)},
		{holdRec(1, 1), closeRec(1), undoRec(1)},
		{holdRec(1, 1), undoRec(1), closeRec(1)},
		{holdRec(1, 1), undoRec(1), holdRec(1, 1)},
		{undoRec(6), holdRec(6, 1)},
		{undoRec(6), undoRec(6)},
		{holdRec(1, 3), holdRec(2, 3), holdRec(3, 3), holdRec(4, 1)},
		{holdRec(1, 3), closeRec(1), holdRec(2, 3), holdRec(3, 3), holdRec(4, 1)},
		{{Kind: impl.RecBegin, Trip: 1, Many: []int{1, 0, 0}}},
		{holdRec(1, 1), {Kind: impl.RecYes, Trip: 1}},
		{undoRec(1), {Kind: impl.RecNo, Trip: 1}},
		{holdRec(1, 1), closeRec(1), {Kind: impl.RecEnd, Trip: 1}},
		sampleRecs(40),
		slices.Repeat([]impl.Rec{undoRec(1)}, 40),
		slices.Repeat([]impl.Rec{holdRec(1, 1), closeRec(1)}, 20),
		append(houseRecs(), slices.Repeat([]impl.Rec{undoRec(6)}, 29)...),
	}
}

// badHouses is houses each of which is not ok for one reason, up and down.
func badHouses() []impl.House {
	out := []impl.House{{}, {Up: true}, {Id: 4, Room: 3}, {Log: impl.Log{Recs: houseRecs(), Forced: 3}, Room: 9}}
	for _, id := range []int{math.MinInt, -3, -1, 0, 4, 5, 256, 257, math.MaxInt} {
		out = append(out, houseWith(id, 5, 0), houseWith(id, 9, 4, houseRecs()...))
	}
	for _, room := range []int{math.MinInt, -9, -1, 10, 11, 256, 265, math.MaxInt} {
		out = append(out, houseWith(1, room, 0), houseWith(3, room, 0, undoRec(1)), houseWith(2, room, 4, houseRecs()...))
	}
	for room := range 7 {
		out = append(out, houseWith(2, room, 1, houseRecs()...))
	}
	for _, l := range badLogs() {
		out = append(out, impl.House{Id: 1, Up: true, Room: 9, Log: l})
	}
	for _, n := range []int{0, 1, 11} {
		for _, forced := range []int{math.MinInt, -1, n + 1, 12, 40, math.MaxInt} {
			out = append(out, houseWith(3, 9, forced, houseRecs()[:n]...))
		}
	}
	for _, r := range badRecs() {
		out = append(out, houseWith(3, 9, 0, r), houseWith(3, 9, 2, append(houseRecs(), r)...))
	}
	for _, recs := range noStocks() {
		for _, forced := range []int{0, 1, len(recs)} {
			out = append(out, houseWith(2, 9, forced, recs...))
		}
	}
	for _, h := range slices.Clone(out) {
		h.Up = !h.Up
		out = append(out, h)
	}
	return out
}

// mustGo holds all that a house answers to a word, and a fall, against the document.
func mustGo(t *testing.T, h impl.House, w impl.Word, keep int) {
	t.Helper()
	if !houseOkByDocument(h) || !impl.HouseOk(h) {
		t.Fatal(h)
	}
	if got := heard(h, w); !sameHear(got, hearByDocument(h, w)) {
		t.Fatal(h, w, got)
	}
	force, rise := h, h
	rise.Up = true
	if h.Up {
		force.Log.Forced = len(h.Log.Recs)
	}
	left := leftOf(len(h.Log.Recs), h.Log.Forced, keep)
	fall := impl.House{Id: h.Id, Room: h.Room, Log: impl.Log{Recs: h.Log.Recs[:left], Forced: left}}
	if !sameHouse(impl.HouseForce(h), force) || !sameHouse(impl.HouseRise(h), rise) || !sameHouse(impl.HouseFall(h, keep), fall) {
		t.Fatal(h, keep, impl.HouseForce(h), impl.HouseRise(h), impl.HouseFall(h, keep))
	}
}

// roomyHouse is the house, with room behind all its lists in which others stand.
func roomyHouse(h impl.House) impl.House {
	h.Log = roomyLog(h.Log)
	return h
}
