package tests

import (
	"math"
	"slices"
	"testing"

	"loop.example/concierge/impl"
)

func TestP51DeskNew(t *testing.T) {
	d := impl.DeskNew()
	if !sameDesk(d, impl.Desk{Up: true}) || !impl.DeskOk(d) {
		t.Error(d)
	}
	for _, forced := range []bool{false, true} {
		if got := impl.DeskTrips(d, forced); len(got) != 0 {
			t.Error(got)
		}
	}
	if got := impl.DeskWords(d); len(got) != 0 {
		t.Error(got)
	}
	first := begun(d, []int{0, 3, 1})
	if !sameDeskAnswer(first, deskAnswer{deskWith(0, nil, beginRec(1, 0, 3, 1)), true}) {
		t.Error(first)
	}
}

func TestDeskOk(t *testing.T) {
	eachDesk(func(d impl.Desk) {
		if !deskOkByDocument(d) || !impl.DeskOk(d) || !impl.DeskOk(down(d)) {
			t.Fatal(d)
		}
		d.Up = false
		if impl.DeskOk(d) != (len(d.Told) == 0) {
			t.Fatal(d)
		}
	})
	for _, d := range someDesks() {
		if !deskOkByDocument(d) || !impl.DeskOk(d) {
			t.Fatal(d)
		}
	}
}

// A desk can have been told all that there is to tell, of houses of which nothing is wanted too.
func TestDeskOkWithAllTold(t *testing.T) {
	recs := deskRecs()
	for n := range len(recs) + 1 {
		trips := len(tripsByDocument(recs[:n]).list)
		if d := deskWith(n, answersOfFirst(trips), recs[:n]...); !impl.DeskOk(d) {
			t.Error(n)
		}
		for _, w := range answersOf(min(trips+1, 6)) {
			if d := deskWith(n, append(answersOfFirst(trips), w), recs[:n]...); impl.DeskOk(d) {
				t.Error(n, w)
			}
		}
	}
}

func TestDeskOkOfWhatWasTold(t *testing.T) {
	words := slices.Concat(okWords(), badWords())
	recs := deskRecs()
	for _, n := range []int{0, 1, 2, 6, 14} {
		for _, up := range []bool{true, false} {
			for i, w := range words {
				d := deskWith(n/2, []impl.Word{w}, recs[:n]...)
				d.Up = up
				if impl.DeskOk(d) != deskOkByDocument(d) {
					t.Fatal(d)
				}
				d.Told = append(d.Told, words[i*7%len(words)])
				if impl.DeskOk(d) != deskOkByDocument(d) {
					t.Fatal(d)
				}
			}
		}
	}
}

func TestDesksThatAreNotOk(t *testing.T) {
	words := slices.Concat(answersOf(1), answersOf(6), wordsTo(1, 1)[:5], badWords()[:3])
	for i, d := range badDesks() {
		if deskOkByDocument(d) || impl.DeskOk(d) {
			t.Fatal(i, d)
		}
		if impl.DeskTrips(d, false) != nil || impl.DeskTrips(d, true) != nil || impl.DeskWords(d) != nil {
			t.Fatal(i, d)
		}
		if !isNoDesk(impl.DeskForce(d)) || !isNoDesk(impl.DeskRise(d)) {
			t.Fatal(i, d)
		}
		for _, n := range []int{math.MinInt, -1, 0, 1, 2, 6, 7, 40, math.MaxInt} {
			if !isNoDesk(impl.DeskFall(d, n)) || !sameDeskAnswer(given(d, n), deskAnswer{}) {
				t.Fatal(i, d, n)
			}
		}
		for _, many := range [][]int{nil, {1, 0, 0}, {3, 3, 3}, {0, 0, 0}, {4, 1, 1}} {
			if !sameDeskAnswer(begun(d, many), deskAnswer{}) {
				t.Fatal(i, d, many)
			}
		}
		for _, w := range words {
			if !isNoDesk(impl.DeskHear(d, w)) {
				t.Fatal(i, d, w)
			}
		}
	}
}

func TestP52DeskBegin(t *testing.T) {
	for _, d := range someDesks() {
		for _, many := range wanted() {
			got := begun(d, many)
			if !sameDeskAnswer(got, begunByDocument(d, many)) {
				t.Fatal(d, many, got)
			}
			if !got.ok {
				continue
			}
			n := len(allTrips(d))
			list := impl.DeskTrips(got.desk, false)
			if len(list) != n+1 || !sameTrips(list[:n], allTrips(d)) || !sameTrip(list[n], impl.Trip{Many: many, State: impl.TripAsked}) {
				t.Fatal(d, many, list)
			}
			if !impl.DeskOk(got.desk) || !sameTrips(impl.DeskTrips(got.desk, true), sureTrips(d)) {
				t.Fatal(d, many, got)
			}
			if !slices.Equal(impl.DeskWords(got.desk), impl.DeskWords(d)) || !slices.Equal(got.desk.Told, d.Told) {
				t.Fatal(d, many, got)
			}
		}
	}
}

func TestP52DeskBeginUpToTheLimitAndOnceMore(t *testing.T) {
	d := impl.DeskNew()
	for trip := 1; trip <= 6; trip++ {
		got := begun(d, []int{trip % 4, 1, 0})
		if !got.ok || len(impl.DeskTrips(got.desk, false)) != trip || len(impl.DeskTrips(got.desk, true)) != 0 {
			t.Fatal(trip, got)
		}
		d = got.desk
	}
	for _, full := range []impl.Desk{d, impl.DeskForce(d), down(d), impl.DeskFall(d, 6), deskWith(7, nil, deskRecs()...)} {
		for _, many := range [][]int{{1, 0, 0}, {3, 3, 3}, {0, 0, 0}, nil} {
			if got := begun(full, many); !sameDeskAnswer(got, deskAnswer{}) {
				t.Error(full, many, got)
			}
		}
	}
}

func TestDeskBeginOfWhatCannotBeWanted(t *testing.T) {
	var bad [][]int
	for _, trip := range badTrips() {
		if !recOkByDocument(impl.Rec{Kind: 4, Trip: 1, Many: trip.Many}) {
			bad = append(bad, trip.Many)
		}
	}
	bad = append(bad, []int{}, []int{2}, []int{1, 2}, []int{1, 2, 3, 0}, []int{-1, 0, 0}, []int{0, 0, 4}, []int{0, -1, 1})
	for _, d := range someDesks() {
		for _, many := range bad {
			if got := begun(d, many); !sameDeskAnswer(got, deskAnswer{}) {
				t.Fatal(d, many, got)
			}
		}
	}
}

// Of a desk that is down a beginning that is none is nothing; one that could be leaves it as it is.
func TestDeskBeginAtADeskThatIsDown(t *testing.T) {
	for _, d := range []impl.Desk{{}, down(deskWith(1, nil, deskRecs()[:3]...))} {
		if got := begun(d, []int{1, 0, 0}); !sameDeskAnswer(got, deskAnswer{d, false}) {
			t.Error(d, got)
		}
		if got := begun(d, []int{0, 0, 0}); !sameDeskAnswer(got, deskAnswer{}) {
			t.Error(d, got)
		}
	}
}

func TestP53DeskGive(t *testing.T) {
	for _, d := range someDesks() {
		for _, trip := range edgeInts {
			got := given(d, trip)
			if !sameDeskAnswer(got, givenByDocument(d, trip)) {
				t.Fatal(d, trip, got)
			}
			if got.ok != (d.Up && stateIn(allTrips(d), trip) == impl.TripAsked) {
				t.Fatal(d, trip, got)
			}
			if !got.ok {
				continue
			}
			want := allTrips(d)
			want[trip-1].State = impl.TripNo
			if !sameTrips(impl.DeskTrips(got.desk, false), want) || !sameTrips(impl.DeskTrips(got.desk, true), sureTrips(d)) {
				t.Fatal(d, trip, got)
			}
			if !impl.DeskOk(got.desk) || got.desk.Log.Forced != d.Log.Forced || !slices.Equal(got.desk.Told, d.Told) {
				t.Fatal(d, trip, got)
			}
		}
	}
}

func TestP53DeskGiveOfEachState(t *testing.T) {
	d := deskWith(14, nil, deskRecs()...)
	for trip, state := range []int{0, impl.TripLeft, impl.TripKept, impl.TripNo, impl.TripKept, impl.TripYes, impl.TripAsked} {
		if trip == 0 {
			continue
		}
		got := given(d, trip)
		if got.ok != (state == impl.TripAsked) || got.ok == sameDesk(got.desk, d) || isNoDesk(got.desk) {
			t.Error(trip, got)
		}
		if again := given(got.desk, trip); !sameDeskAnswer(again, deskAnswer{got.desk, false}) {
			t.Error(trip, again)
		}
		if still := given(down(d), trip); !sameDeskAnswer(still, deskAnswer{down(d), false}) {
			t.Error(trip, still)
		}
	}
	few := deskWith(1, []impl.Word{heldBy(1, 1)}, beginRec(1, 1, 1, 0))
	for trip := 2; trip <= 6; trip++ {
		if got := given(few, trip); !sameDeskAnswer(got, deskAnswer{few, false}) {
			t.Error(trip, got)
		}
	}
	for _, trip := range []int{math.MinInt, -6, -1, 0, 7, 8, 257, math.MaxInt} {
		for _, desk := range []impl.Desk{d, down(d), few, impl.DeskNew(), {}} {
			if got := given(desk, trip); !sameDeskAnswer(got, deskAnswer{}) {
				t.Error(trip, got)
			}
		}
	}
}

// What is given up is not told to anybody ahead of its being forced: the houses are still asked to hold.
func TestP53GivenUpAndNotForced(t *testing.T) {
	d := deskWith(1, nil, beginRec(1, 2, 0, 1))
	got := given(d, 1)
	holds := []impl.Word{{Kind: 1, House: 1, Trip: 1, Many: 2}, {Kind: 1, House: 3, Trip: 1, Many: 1}}
	if !got.ok || !slices.Equal(impl.DeskWords(got.desk), holds) {
		t.Error(got, impl.DeskWords(got.desk))
	}
	undos := []impl.Word{{Kind: 3, House: 1, Trip: 1}, {Kind: 3, House: 3, Trip: 1}}
	if said := impl.DeskWords(impl.DeskForce(got.desk)); !slices.Equal(said, undos) {
		t.Error(said)
	}
}

func TestP64DeskTrips(t *testing.T) {
	differ := 0
	eachDesk(func(d impl.Desk) {
		for _, desk := range []impl.Desk{d, down(d)} {
			all, sure := impl.DeskTrips(desk, false), impl.DeskTrips(desk, true)
			if !sameTrips(all, allTrips(d)) || !sameTrips(sure, sureTrips(d)) {
				t.Fatal(desk, all, sure)
			}
			if len(sure) > len(all) {
				t.Fatal(desk, all, sure)
			}
			for i, trip := range sure {
				if !slices.Equal(trip.Many, all[i].Many) {
					t.Fatal(desk, all, sure)
				}
			}
			if !sameTrips(all, sure) {
				differ++
			}
		}
	})
	if differ < 1000 {
		t.Error("hardly any desk has something that is not forced:", differ)
	}
}

func TestP64WhatIsNotForcedDoesNotCount(t *testing.T) {
	recs := []impl.Rec{beginRec(1, 1, 2, 0), yesRec(1), beginRec(2, 0, 0, 3), endRec(1), noRec(2)}
	one, two := []int{1, 2, 0}, []int{0, 0, 3}
	want := [][]impl.Trip{
		nil,
		{{Many: one, State: 1}},
		{{Many: one, State: 2}},
		{{Many: one, State: 2}, {Many: two, State: 1}},
		{{Many: one, State: 4}, {Many: two, State: 1}},
		{{Many: one, State: 4}, {Many: two, State: 3}},
	}
	for forced, sure := range want {
		d := deskWith(forced, nil, recs...)
		if got := impl.DeskTrips(d, true); !sameTrips(got, sure) {
			t.Error(forced, got)
		}
		if got := impl.DeskTrips(d, false); !sameTrips(got, want[5]) {
			t.Error(forced, got)
		}
	}
}

func TestP65EachBeginningMakesTrips(t *testing.T) {
	eachDesk(func(d impl.Desk) {
		for n := range len(d.Log.Recs) + 1 {
			first := d.Log.Recs[:n]
			if list, ok := impl.TripsOf(first); !ok || !impl.TripsOk(list) {
				t.Fatal(d, n)
			}
			for _, forced := range []int{0, n / 2, n} {
				left := deskWith(forced, nil, first...)
				if !impl.DeskOk(left) || !impl.DeskOk(down(left)) {
					t.Fatal(d, n, forced)
				}
			}
		}
		d.Told = nil
		if !impl.DeskOk(d) {
			t.Fatal(d)
		}
	})
}
