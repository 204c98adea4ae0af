package tests

import (
	"math"
	"math/rand/v2"
	"slices"

	"loop.example/concierge/impl"
)

// deskAnswer is what DeskBegin, or DeskGive, answers.
type deskAnswer struct {
	desk impl.Desk
	ok   bool
}

func begun(d impl.Desk, many []int) deskAnswer {
	got, ok := impl.DeskBegin(d, many)
	return deskAnswer{got, ok}
}

func given(d impl.Desk, trip int) deskAnswer {
	got, ok := impl.DeskGive(d, trip)
	return deskAnswer{got, ok}
}

func sameDesk(a, b impl.Desk) bool {
	return a.Up == b.Up && sameLog(a.Log, b.Log) && slices.Equal(a.Told, b.Told)
}

func sameDeskAnswer(a, b deskAnswer) bool {
	return a.ok == b.ok && sameDesk(a.desk, b.desk)
}

func isNoDesk(d impl.Desk) bool {
	return sameDesk(d, impl.Desk{})
}

func sameTrips(a, b []impl.Trip) bool {
	return slices.EqualFunc(a, b, sameTrip)
}

// deskWith is a desk that is up, was told this, and wrote these records down, so many of which are forced.
func deskWith(forced int, told []impl.Word, recs ...impl.Rec) impl.Desk {
	return impl.Desk{Up: true, Log: impl.Log{Recs: recs, Forced: forced}, Told: told}
}

// down is the desk as it is when it is down: told nothing.
func down(d impl.Desk) impl.Desk {
	return impl.Desk{Log: d.Log}
}

func heldBy(house, trip int) impl.Word {
	return impl.Word{Kind: impl.WordHeld, House: house, Trip: trip}
}

func fullBy(house, trip int) impl.Word {
	return impl.Word{Kind: impl.WordFull, House: house, Trip: trip}
}

func closedBy(house, trip int) impl.Word {
	return impl.Word{Kind: impl.WordClosed, House: house, Trip: trip}
}

func undoneBy(house, trip int) impl.Word {
	return impl.Word{Kind: impl.WordUndone, House: house, Trip: trip}
}

// answersOf is each answer of each house, of one trip.
func answersOf(trip int) []impl.Word {
	var out []impl.Word
	for house := 1; house <= 3; house++ {
		out = append(out, wordsTo(house, trip)[5:]...)
	}
	return out
}

// answersOfFirst is answersOf of the first trips.
func answersOfFirst(trips int) []impl.Word {
	var out []impl.Word
	for trip := 1; trip <= trips; trip++ {
		out = append(out, answersOf(trip)...)
	}
	return out
}

// housesByDocument is the houses of which any is wanted.
func housesByDocument(many []int) []int {
	var out []int
	for i, n := range many {
		if n != 0 {
			out = append(out, i+1)
		}
	}
	return out
}

// allTrips is trips by all records of an ok desk, sureTrips by those that were forced.
func allTrips(d impl.Desk) []impl.Trip {
	return tripsByDocument(d.Log.Recs).list
}

func sureTrips(d impl.Desk) []impl.Trip {
	return tripsByDocument(d.Log.Recs[:d.Log.Forced]).list
}

// stateIn is the state of a trip; 0, if there is none.
func stateIn(list []impl.Trip, trip int) int {
	if trip < 1 || trip > len(list) {
		return 0
	}
	return list[trip-1].State
}

// deskOkByDocument says once more what the document does, with its numbers written out.
func deskOkByDocument(d impl.Desk) bool {
	n := len(d.Log.Recs)
	// Of 6 trips 3 houses have 4 answers each.
	if n > 40 || d.Log.Forced < 0 || d.Log.Forced > n || len(d.Told) > 72 || !d.Up && len(d.Told) != 0 {
		return false
	}
	trips := tripsByDocument(d.Log.Recs)
	for i, w := range d.Told {
		if !wordOkByDocument(w) || w.Kind < 4 || w.Trip > len(trips.list) || slices.Contains(d.Told[:i], w) {
			return false
		}
	}
	return trips.ok
}

// writtenByDocument is of an ok desk and an ok record.
func writtenByDocument(d impl.Desk, r impl.Rec) deskAnswer {
	if !d.Up || !didByDocument(allTrips(d), r).ok {
		return deskAnswer{d, false}
	}
	d.Log.Recs = append(slices.Clone(d.Log.Recs), r)
	return deskAnswer{d, true}
}

func begunByDocument(d impl.Desk, many []int) deskAnswer {
	r := impl.Rec{Kind: 4, Trip: len(allTrips(d)) + 1, Many: many}
	if !recOkByDocument(r) {
		return deskAnswer{}
	}
	return writtenByDocument(d, r)
}

func givenByDocument(d impl.Desk, trip int) deskAnswer {
	if trip < 1 || trip > 6 {
		return deskAnswer{}
	}
	return writtenByDocument(d, impl.Rec{Kind: 6, Trip: trip})
}

// toldOf is how many of a trip's houses told this.
func toldOf(d impl.Desk, kind int, trip int) int {
	count := 0
	for _, house := range housesByDocument(allTrips(d)[trip-1].Many) {
		if slices.Contains(d.Told, impl.Word{Kind: kind, House: house, Trip: trip}) {
			count++
		}
	}
	return count
}

// deskHeardByDocument is of an ok desk.
func deskHeardByDocument(d impl.Desk, w impl.Word) impl.Desk {
	if !d.Up || !wordOkByDocument(w) || w.Kind < 4 || w.Trip > len(allTrips(d)) {
		return d
	}
	if !slices.Contains(d.Told, w) {
		d.Told = append(slices.Clone(d.Told), w)
	}
	now, sure := stateIn(allTrips(d), w.Trip), stateIn(sureTrips(d), w.Trip)
	all := len(housesByDocument(allTrips(d)[w.Trip-1].Many))
	kind := 0
	switch {
	case now == 1 && toldOf(d, 5, w.Trip) > 0:
		kind = 6
	case now == 1 && toldOf(d, 4, w.Trip) == all:
		kind = 5
	case now == 2 && sure == 2 && toldOf(d, 6, w.Trip) == all:
		kind = 7
	case now == 3 && sure == 3 && toldOf(d, 7, w.Trip) == all:
		kind = 7
	}
	if kind != 0 {
		d.Log.Recs = append(slices.Clone(d.Log.Recs), impl.Rec{Kind: kind, Trip: w.Trip})
	}
	return d
}

// deskWordsByDocument is of an ok desk.
func deskWordsByDocument(d impl.Desk) []impl.Word {
	var out []impl.Word
	for i, trip := range sureTrips(d) {
		for _, house := range housesByDocument(trip.Many) {
			// The word of a state is of the same number; its answer is the fourth, sixth or seventh kind.
			done := []int{0, 4, 6, 7, 0, 0}[trip.State]
			if !d.Up || done == 0 || slices.Contains(d.Told, impl.Word{Kind: done, House: house, Trip: i + 1}) {
				continue
			}
			w := impl.Word{Kind: trip.State, House: house, Trip: i + 1}
			if trip.State == 1 {
				w.Many = trip.Many[house-1]
			}
			out = append(out, w)
		}
	}
	return out
}

// deskFellByDocument is of an ok desk.
func deskFellByDocument(d impl.Desk, keep int) impl.Desk {
	left := leftOf(len(d.Log.Recs), d.Log.Forced, keep)
	return impl.Desk{Log: impl.Log{Recs: d.Log.Recs[:left], Forced: left}}
}

// tripRows is all that can be written down of one trip.
func tripRows(trip int, many ...int) [][]impl.Rec {
	begin := beginRec(trip, many...)
	return [][]impl.Rec{
		{begin},
		{begin, yesRec(trip)}, {begin, noRec(trip)},
		{begin, yesRec(trip), endRec(trip)}, {begin, noRec(trip), endRec(trip)},
	}
}

// saidByEach is what houses may have told of a trip: each of them one of these lists of kinds.
func saidByEach(trip int) [][]impl.Word {
	each := [][]int{nil, {4}, {5, 4}, {5}, {6}, {7, 6}, {7}}
	out := [][]impl.Word{nil}
	for house := 1; house <= 3; house++ {
		var next [][]impl.Word
		for _, words := range out {
			for _, kinds := range each {
				more := slices.Clone(words)
				for _, kind := range kinds {
					more = append(more, impl.Word{Kind: kind, House: house, Trip: trip})
				}
				next = append(next, more)
			}
		}
		out = next
	}
	return out
}

// eachDesk calls f with desks that are up: one trip of one house, two, or all, in each state, with each number of records forced, whatever was told; and many of several trips.
func eachDesk(f func(d impl.Desk)) {
	f(impl.DeskNew())
	said := saidByEach(1)
	for _, many := range [][]int{{0, 2, 0}, {3, 0, 1}, {1, 2, 3}} {
		for _, recs := range tripRows(1, many...) {
			for forced := range len(recs) + 1 {
				for _, told := range said {
					f(deskWith(forced, told, recs...))
				}
			}
		}
	}
	dice := rand.New(rand.NewPCG(51, 65))
	for range 800 {
		f(thrownDesk(dice))
	}
}

// thrownDesk is a desk that is up, of several trips that went on as the dice fell, with as much told and forced.
func thrownDesk(dice *rand.Rand) impl.Desk {
	var recs []impl.Rec
	var list []impl.Trip
	most := dice.IntN(7)
	for range 5 + dice.IntN(40) {
		r := impl.Rec{Kind: 4 + dice.IntN(4), Trip: 1 + dice.IntN(6)}
		if r.Kind == 4 {
			r.Trip, r.Many = len(list)+1, wanted()[dice.IntN(63)]
		}
		if next := didByDocument(list, r); next.ok && len(next.list) <= most {
			list, recs = next.list, append(recs, r)
		}
	}
	told := answersOfFirst(len(list))
	dice.Shuffle(len(told), func(i, j int) { told[i], told[j] = told[j], told[i] })
	return deskWith(dice.IntN(len(recs)+1), told[:dice.IntN(len(told)+1)], recs...)
}

// eachDeskHear calls f with desks that are up, answers of their trips, and what is behind them.
func eachDeskHear(f func(d impl.Desk, w impl.Word, behind impl.Desk)) {
	eachDesk(func(d impl.Desk) {
		for _, w := range answersOfFirst(len(allTrips(d))) {
			f(d, w, impl.DeskHear(d, w))
		}
	})
}

// someDesks is some desks that are ok, up and down: with no trip, with one in each state, with all trips, each number of records being forced.
func someDesks() []impl.Desk {
	out := []impl.Desk{impl.DeskNew(), {}, {Up: true, Log: impl.Log{Recs: []impl.Rec{}}, Told: []impl.Word{}}}
	recs := deskRecs()
	for n := range len(recs) + 1 {
		for _, forced := range []int{0, n / 2, n} {
			told := answersOfFirst(len(tripsByDocument(recs[:n]).list))
			for _, some := range []int{0, 1, len(told) / 2, len(told)} {
				d := deskWith(forced, told[:min(some, len(told))], recs[:n]...)
				out = append(out, d, down(d))
			}
		}
	}
	return out
}

// badTold is what two trips' desk cannot have been told, each for one reason.
func badTold() [][]impl.Word {
	out := [][]impl.Word{
		{heldBy(1, 1), heldBy(1, 1)},
		{heldBy(1, 1), fullBy(2, 2), heldBy(1, 1)},
		{heldBy(1, 3)}, {fullBy(3, 6)},
		{closedBy(1, 1), undoneBy(1, 2), undoneBy(1, 3)},
		append(answersOfFirst(2), undoneBy(3, 2)),
		append(answersOfFirst(2), answersOfFirst(2)...),
		slices.Repeat([]impl.Word{heldBy(1, 1)}, 100000),
		answersOfFirst(3), answersOfFirst(6),
	}
	for house := 1; house <= 3; house++ {
		for _, w := range wordsTo(house, 2)[:5] {
			out = append(out, []impl.Word{w}, []impl.Word{heldBy(1, 1), w, fullBy(1, 1)})
		}
	}
	for _, w := range badWords() {
		out = append(out, []impl.Word{w}, []impl.Word{heldBy(1, 1), fullBy(1, 1), w})
	}
	return out
}

// noTrips is ok records that make no trips.
func noTrips() [][]impl.Rec {
	begin := beginRec(1, 1, 0, 2)
	return [][]impl.Rec{
		{beginRec(2, 1, 1, 1)}, {begin, begin}, {begin, beginRec(3, 1, 0, 0)},
		{yesRec(1)}, {noRec(1)}, {endRec(1)}, {begin, endRec(1)}, {begin, yesRec(2)},
		{begin, yesRec(1), yesRec(1)}, {begin, yesRec(1), noRec(1)}, {begin, noRec(1), yesRec(1)},
		{begin, yesRec(1), endRec(1), endRec(1)}, {begin, noRec(1), endRec(1), noRec(1)}, {begin, yesRec(1), begin},
		{begin, holdRec(1, 1)}, {begin, closeRec(1)}, {undoRec(1)},
		sampleRecs(40), houseRecs(), append(deskRecs(), noRec(1)), append(deskRecs(), beginRec(1, 1, 1, 1)),
		slices.Repeat([]impl.Rec{begin}, 40),
	}
}

// badDesks is desks each of which is not ok for one reason.
func badDesks() []impl.Desk {
	var out []impl.Desk
	for _, l := range badLogs() {
		out = append(out, impl.Desk{Up: true, Log: l}, impl.Desk{Log: l})
	}
	for _, n := range []int{0, 1, 14} {
		for _, forced := range []int{math.MinInt, -1, n + 1, 15, 40, math.MaxInt} {
			d := deskWith(forced, nil, deskRecs()[:n]...)
			out = append(out, d, down(d))
		}
	}
	for _, r := range badRecs() {
		out = append(out, deskWith(0, nil, r), deskWith(3, nil, append(deskRecs(), r)...))
	}
	for _, recs := range noTrips() {
		for _, forced := range []int{0, 1, len(recs)} {
			d := deskWith(forced, nil, recs...)
			out = append(out, d, down(d))
		}
	}
	two := []impl.Rec{beginRec(1, 1, 0, 2), beginRec(2, 0, 3, 1)}
	for _, told := range badTold() {
		out = append(out, deskWith(2, told, two...), impl.Desk{Up: true, Told: told}, impl.Desk{Told: told})
	}
	for _, w := range answersOfFirst(2) {
		d := deskWith(1, []impl.Word{w}, two...)
		d.Up = false
		out = append(out, d, impl.Desk{Up: true, Told: []impl.Word{w}}, deskWith(1, []impl.Word{w, w}, two...))
	}
	return out
}
