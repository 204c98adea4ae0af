package tests

import (
	"math"
	"slices"
	"testing"

	"loop.example/concierge/impl"
)

// tripStates are the states in which a trip is.
var tripStates = []int{impl.TripAsked, impl.TripYes, impl.TripNo, impl.TripKept, impl.TripLeft}

// tripsAnswer is what TripsDo, or TripsOf, answers.
type tripsAnswer struct {
	list []impl.Trip
	ok   bool
}

func did(list []impl.Trip, r impl.Rec) tripsAnswer {
	got, ok := impl.TripsDo(list, r)
	return tripsAnswer{got, ok}
}

func tripsBehind(recs []impl.Rec) tripsAnswer {
	got, ok := impl.TripsOf(recs)
	return tripsAnswer{got, ok}
}

// sameTrip is true of nil and empty lists too, which are one value.
func sameTrip(a, b impl.Trip) bool {
	return a.State == b.State && slices.Equal(a.Many, b.Many)
}

func sameAnswer(a, b tripsAnswer) bool {
	return a.ok == b.ok && slices.EqualFunc(a.list, b.list, sameTrip)
}

// isNoAnswer says whether an answer is nothing and false.
func isNoAnswer(d tripsAnswer) bool {
	return !d.ok && len(d.list) == 0
}

// tripsOkByDocument says once more what the document does, with its numbers written out.
func tripsOkByDocument(list []impl.Trip) bool {
	for _, trip := range list {
		begin := impl.Rec{Kind: 4, Trip: 1, Many: trip.Many}
		if !recOkByDocument(begin) || trip.State < 1 || trip.State > 5 {
			return false
		}
	}
	return len(list) <= 6
}

// didByDocument is of ok trips.
func didByDocument(list []impl.Trip, r impl.Rec) tripsAnswer {
	if !recOkByDocument(r) {
		return tripsAnswer{}
	}
	if r.Kind == 4 && r.Trip == len(list)+1 {
		return tripsAnswer{append(slices.Clone(list), impl.Trip{Many: r.Many, State: 1}), true}
	}
	if r.Kind <= 4 || r.Trip > len(list) {
		return tripsAnswer{}
	}
	// Each row is a kind of record, the state that it finds, and the one that it leaves.
	for _, row := range [][3]int{{5, 1, 2}, {6, 1, 3}, {7, 2, 4}, {7, 3, 5}} {
		if row[0] == r.Kind && row[1] == list[r.Trip-1].State {
			out := slices.Clone(list)
			out[r.Trip-1].State = row[2]
			return tripsAnswer{out, true}
		}
	}
	return tripsAnswer{}
}

// tripsByDocument goes from no trips on, record by record.
func tripsByDocument(recs []impl.Rec) tripsAnswer {
	d := tripsAnswer{ok: true}
	for _, r := range recs {
		if d = didByDocument(d.list, r); !d.ok {
			return d
		}
	}
	return d
}

// tripsIn is a trip of each of these states; no two neighbours want the same.
func tripsIn(states ...int) []impl.Trip {
	var out []impl.Trip
	all := wanted()
	for i, state := range states {
		out = append(out, impl.Trip{Many: slices.Clone(all[(i*17+5)%63]), State: state})
	}
	return out
}

// eachTrips calls f with ok trips of every number, and of all states in which they can be.
func eachTrips(f func(list []impl.Trip)) {
	last := [][]int{nil}
	f(nil)
	for range 6 {
		var next [][]int
		for _, states := range last {
			for _, state := range tripStates {
				more := append(slices.Clone(states), state)
				next = append(next, more)
				f(tripsIn(more...))
			}
		}
		last = next
	}
}

// eachDone calls f with ok trips and records that may come there, and what is behind them.
func eachDone(f func(list []impl.Trip, r impl.Rec, behind []impl.Trip)) {
	recs := recsOfAll()
	eachTrips(func(list []impl.Trip) {
		for _, r := range recs {
			if d := did(list, r); d.ok {
				f(list, r, d.list)
			}
		}
	})
}

// tripLists is some ok trips, of every number, each state among them.
func tripLists() [][]impl.Trip {
	out := [][]impl.Trip{nil, {}}
	for n := 1; n <= 6; n++ {
		for from := range 5 {
			var states []int
			for i := range n {
				states = append(states, 1+(from+i)%5)
			}
			out = append(out, tripsIn(states...))
		}
	}
	return out
}

// badTrips is trips none of which is ok, each for one reason.
func badTrips() []impl.Trip {
	var out []impl.Trip
	for _, state := range edgeInts {
		if state < 1 || state > 5 {
			out = append(out, impl.Trip{Many: []int{1, 0, 3}, State: state})
		}
	}
	for _, many := range [][]int{nil, {}, {0, 0, 0}, {1}, {1, 1}, {1, 1, 1, 1}, {1, 1, 1, 0}, {0, 0}, make([]int, 100000)} {
		out = append(out, impl.Trip{Many: many, State: 1})
	}
	for place := range 3 {
		for _, n := range []int{math.MinInt, -256, -1, 4, 5, 256, 257, math.MaxInt} {
			many := []int{1, 2, 3}
			many[place] = n
			out = append(out, impl.Trip{Many: many, State: 2})
		}
	}
	return append(out, impl.Trip{}, impl.Trip{Many: []int{3, 3, 3}})
}

// badTripLists is lists of trips each of which is not ok for one reason.
func badTripLists() [][]impl.Trip {
	out := [][]impl.Trip{tripsIn(1, 2, 3, 4, 5, 1, 2), make([]impl.Trip, 1), make([]impl.Trip, 6)}
	for _, n := range []int{7, 8, 256, 10000} {
		out = append(out, tripsIn(slices.Repeat([]int{1}, n)...))
	}
	for _, bad := range badTrips() {
		out = append(out, []impl.Trip{bad})
		for _, at := range []int{0, 2, 5} {
			list := tripsIn(1, 2, 3, 4, 5, 1)
			list[at] = bad
			out = append(out, list)
		}
	}
	return out
}

func beginRec(trip int, many ...int) impl.Rec {
	return impl.Rec{Kind: impl.RecBegin, Trip: trip, Many: many}
}

func yesRec(trip int) impl.Rec {
	return impl.Rec{Kind: impl.RecYes, Trip: trip}
}

func noRec(trip int) impl.Rec {
	return impl.Rec{Kind: impl.RecNo, Trip: trip}
}

func endRec(trip int) impl.Rec {
	return impl.Rec{Kind: impl.RecEnd, Trip: trip}
}

// deskRecs is records of TripMax trips, mixed, behind which there is one in each state.
func deskRecs() []impl.Rec {
	return []impl.Rec{
		beginRec(1, 1, 0, 0), beginRec(2, 0, 2, 1), yesRec(2), noRec(1), endRec(2),
		beginRec(3, 3, 3, 3), beginRec(4, 0, 0, 1), yesRec(4), endRec(1), noRec(3),
		beginRec(5, 2, 1, 0), endRec(4), yesRec(5), beginRec(6, 0, 3, 0),
	}
}

// mustTake holds TripsMay and TripsDo of ok trips against the document.
func mustTake(t *testing.T, list []impl.Trip, r impl.Rec) tripsAnswer {
	t.Helper()
	want := didByDocument(list, r)
	if impl.TripsMay(list, r) != want.ok {
		t.Fatal(list, r, !want.ok)
	}
	got := did(list, r)
	if !sameAnswer(got, want) {
		t.Fatal(list, r, got, want)
	}
	return got
}

// mustTripsOf holds TripsOf against the document.
func mustTripsOf(t *testing.T, recs []impl.Rec) tripsAnswer {
	t.Helper()
	got := tripsBehind(recs)
	if want := tripsByDocument(recs); !sameAnswer(got, want) {
		t.Fatal(recs, got, want)
	}
	return got
}

// tripSpans looks behind the end of the trips too.
func tripSpans(list []impl.Trip) []span {
	out := []span{spanOf(list)}
	for _, trip := range list[:cap(list)] {
		out = append(out, spanOf(trip.Many))
	}
	return out
}

// roomyTrips is the trips, with room behind them, and behind what each one wants, in which others stand.
func roomyTrips(list []impl.Trip) []impl.Trip {
	out := make([]impl.Trip, 0, len(list)+3)
	for _, trip := range list {
		many := append(make([]int, 0, len(trip.Many)+2), trip.Many...)
		copy(many[len(many):cap(many)], []int{1, -62})
		out = append(out, impl.Trip{Many: many, State: trip.State})
	}
	copy(out[len(out):cap(out)], []impl.Trip{{Many: []int{1, 2, 3}, State: 1}, {Many: []int{-63}, State: -64}, {State: 9}})
	return out
}

// tripInts is all numbers of trips, those in their spare room too.
func tripInts(list []impl.Trip) []int {
	out := []int{len(list), cap(list)}
	for _, trip := range list[:cap(list)] {
		out = append(out, trip.State, len(trip.Many), cap(trip.Many))
		out = append(out, trip.Many[:cap(trip.Many)]...)
	}
	return out
}
