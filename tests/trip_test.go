package tests

import (
	"slices"
	"testing"

	"loop.example/concierge/impl"
)

func TestStatesOfTrips(t *testing.T) {
	got := []int{impl.TripNone, impl.TripAsked, impl.TripYes, impl.TripNo, impl.TripKept, impl.TripLeft}
	if !slices.Equal(got, []int{0, 1, 2, 3, 4, 5}) {
		t.Error(got)
	}
}

func TestP49NoTripsAndEveryStateOfTrips(t *testing.T) {
	if !impl.TripsOk(nil) || !impl.TripsOk([]impl.Trip{}) {
		t.Error("no trips are not ok")
	}
	eachTrips(func(list []impl.Trip) {
		if !impl.TripsOk(list) {
			t.Fatal(list)
		}
	})
}

func TestP49AsManyTripsAsThereCanBeAndOneMore(t *testing.T) {
	for n := range 20 {
		for _, state := range tripStates {
			if list := tripsIn(slices.Repeat([]int{state}, n)...); impl.TripsOk(list) != (n <= 6) {
				t.Error(n, state)
			}
		}
	}
}

func TestP49AllThatCanBeWanted(t *testing.T) {
	for _, many := range wanted() {
		for _, state := range tripStates {
			for at := range 6 {
				list := tripsIn(1, 2, 3, 4, 5, 1)
				list[at] = impl.Trip{Many: many, State: state}
				if !impl.TripsOk(list) || !impl.TripsOk(list[at:at+1]) {
					t.Fatal(list)
				}
			}
		}
	}
}

func TestP49WhatIsWantedAndStatesAroundTheLimits(t *testing.T) {
	for _, many := range manyLists() {
		for _, state := range edgeInts {
			list := append(tripsIn(3, 4), impl.Trip{Many: many, State: state})
			if want := tripsOkByDocument(list); impl.TripsOk(list) != want || impl.TripsOk(list[2:]) != want {
				t.Fatal(list)
			}
		}
	}
}

func TestP49OneThatIsNone(t *testing.T) {
	for i, bad := range badTrips() {
		for n := range 6 {
			for at := range n + 1 {
				list := slices.Insert(tripsIn([]int{1, 2, 3, 4, 5}[:n]...), at, bad)
				if impl.TripsOk(list) {
					t.Fatal(i, n, at)
				}
				if !impl.TripsOk(list[:at]) || !impl.TripsOk(list[at+1:]) {
					t.Fatal(i, n, at)
				}
			}
		}
	}
}

func TestP49TheFirstOnesAreOk(t *testing.T) {
	eachTrips(func(list []impl.Trip) {
		for n := range len(list) + 1 {
			if !impl.TripsOk(list[:n]) {
				t.Fatal(list, n)
			}
		}
	})
}

// A list that is too long is not ok, though its first ones are.
func TestP49TheFirstOnesOfTooMany(t *testing.T) {
	list := tripsIn(1, 2, 3, 4, 5, 1, 2)
	for n := range 8 {
		if impl.TripsOk(list[:n]) != (n <= 6) {
			t.Error(n)
		}
	}
}

func TestTripsThatAreNotOk(t *testing.T) {
	recs := recsOfAll()
	for i, list := range badTripLists() {
		if impl.TripsOk(list) {
			t.Fatal(i)
		}
		for _, r := range recs {
			if impl.TripsMay(list, r) || !isNoAnswer(did(list, r)) {
				t.Fatal(i, r)
			}
		}
	}
}

// A beginning may not come behind trips that are not ok, though it is of the next one.
func TestTheNextTripBehindTripsThatAreNotOk(t *testing.T) {
	for i, bad := range badTrips() {
		for n := range 5 {
			list := append(tripsIn([]int{1, 2, 3, 4, 5}[:n]...), bad)
			if next := beginRec(len(list)+1, 1, 1, 1); impl.TripsMay(list, next) || !isNoAnswer(did(list, next)) {
				t.Fatal(i, n)
			}
		}
	}
}

// What stands behind the end of a list is no part of it.
func TestSpareRoomOfTripsDoesNotCount(t *testing.T) {
	recs := recsOfAll()
	for i, list := range slices.Concat(tripLists(), badTripLists()) {
		roomy := roomyTrips(list)
		if impl.TripsOk(roomy) != impl.TripsOk(list) {
			t.Fatal(i)
		}
		for _, r := range recs {
			if impl.TripsMay(roomy, r) != impl.TripsMay(list, r) || !sameAnswer(did(roomy, roomyRec(r)), did(list, r)) {
				t.Fatal(i, r)
			}
		}
	}
}

func TestNilAndEmptyListsAreOneValueInTrips(t *testing.T) {
	for _, r := range slices.Concat(okRecs(), badRecs()) {
		if impl.TripsMay(nil, r) != impl.TripsMay([]impl.Trip{}, r) || !sameAnswer(did(nil, r), did([]impl.Trip{}, r)) {
			t.Error(r.Kind, r.Trip)
		}
		if len(r.Many) > 0 {
			continue
		}
		none, empty := impl.Rec{Kind: r.Kind, Trip: r.Trip}, impl.Rec{Kind: r.Kind, Trip: r.Trip, Many: []int{}}
		for _, list := range tripLists() {
			if impl.TripsMay(list, none) != impl.TripsMay(list, empty) || !sameAnswer(did(list, none), did(list, empty)) {
				t.Error(list, r)
			}
		}
	}
	for _, state := range edgeInts {
		none, empty := impl.Trip{State: state}, impl.Trip{Many: []int{}, State: state}
		if impl.TripsOk([]impl.Trip{none}) || impl.TripsOk([]impl.Trip{empty}) {
			t.Error(state)
		}
	}
}

func TestNilAndEmptyListsAreOneValueInRecordsOfTrips(t *testing.T) {
	if !sameAnswer(tripsBehind(nil), tripsBehind([]impl.Rec{})) {
		t.Error(tripsBehind(nil), tripsBehind([]impl.Rec{}))
	}
	recs := deskRecs()
	emptied := slices.Clone(recs)
	for i := range emptied {
		if len(emptied[i].Many) == 0 {
			emptied[i].Many = []int{}
		}
	}
	for n := range len(recs) + 1 {
		if !sameAnswer(tripsBehind(recs[:n]), tripsBehind(emptied[:n])) {
			t.Error(n)
		}
	}
}
