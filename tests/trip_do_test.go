package tests

import (
	"math"
	"slices"
	"testing"

	"loop.example/concierge/impl"
)

func TestP46EveryRecordAtEveryStateOfTrips(t *testing.T) {
	recs := recsOfAll()
	eachTrips(func(list []impl.Trip) {
		for _, r := range recs {
			mustTake(t, list, r)
		}
	})
}

// Beginnings of all that can be wanted too.
func TestP46EveryOkRecord(t *testing.T) {
	for _, list := range tripLists() {
		for _, r := range okRecs() {
			mustTake(t, list, r)
		}
	}
}

// Of each state: whether a yes, a no and an end may come, and the state behind it.
func TestP46YesNoAndEndOfEachState(t *testing.T) {
	rows := []struct{ state, yes, no, end int }{
		{impl.TripAsked, impl.TripYes, impl.TripNo, impl.TripNone},
		{impl.TripYes, impl.TripNone, impl.TripNone, impl.TripKept},
		{impl.TripNo, impl.TripNone, impl.TripNone, impl.TripLeft},
		{impl.TripKept, impl.TripNone, impl.TripNone, impl.TripNone},
		{impl.TripLeft, impl.TripNone, impl.TripNone, impl.TripNone},
	}
	for _, row := range rows {
		for trip := 1; trip <= 6; trip++ {
			list := tripsIn(1, 2, 3, 4, 5, 1)
			list[trip-1].State = row.state
			for i, want := range []int{row.yes, row.no, row.end} {
				r := []impl.Rec{yesRec(trip), noRec(trip), endRec(trip)}[i]
				got := did(list, r)
				if impl.TripsMay(list, r) != (want != 0) || got.ok != (want != 0) {
					t.Fatal(row, r, got)
				}
				if got.ok && got.list[trip-1].State != want || !got.ok && !isNoAnswer(got) {
					t.Fatal(row, r, got)
				}
			}
		}
	}
}

func TestP46OfATripThatThereIsNoneOf(t *testing.T) {
	for _, list := range tripLists() {
		for trip := len(list) + 1; trip <= 7; trip++ {
			for _, r := range []impl.Rec{yesRec(trip), noRec(trip), endRec(trip)} {
				if impl.TripsMay(list, r) || !isNoAnswer(did(list, r)) {
					t.Fatal(list, r)
				}
			}
		}
	}
}

func TestP46RecordsOfHouses(t *testing.T) {
	for _, list := range tripLists() {
		for trip := 1; trip <= 6; trip++ {
			for _, r := range recsOf(trip)[:5] {
				if impl.TripsMay(list, r) || !isNoAnswer(did(list, r)) {
					t.Fatal(list, r)
				}
			}
		}
	}
}

func TestP46RecordsOfTripsThatAreNotOk(t *testing.T) {
	bad := badRecs()
	for trip := 1; trip <= 6; trip++ {
		for _, r := range recsOf(trip) {
			for _, other := range []int{math.MinInt, -1, 0, 7, 8, math.MaxInt} {
				bad = append(bad, impl.Rec{Kind: r.Kind, Trip: other, Many: r.Many})
			}
			bad = append(bad, impl.Rec{Kind: r.Kind, Trip: trip, Many: append(slices.Clone(r.Many), 1)})
		}
		for _, many := range [][]int{nil, {}, {0, 0, 0}, {1, 1}, {4, 0, 0}, {0, -1, 1}, {1, 1, math.MaxInt}, {math.MinInt, 1, 1}} {
			bad = append(bad, beginRec(trip, many...))
		}
		for _, kind := range []int{math.MinInt, -4, 0, 8, 256 + impl.RecBegin, math.MaxInt} {
			bad = append(bad, impl.Rec{Kind: kind, Trip: trip}, impl.Rec{Kind: kind, Trip: trip, Many: []int{1, 1, 1}})
		}
	}
	for _, list := range tripLists() {
		for i, r := range bad {
			if impl.TripsMay(list, r) || !isNoAnswer(did(list, r)) {
				t.Fatal(list, i, r.Kind, r.Trip)
			}
		}
	}
}

func TestP50JustTheNextTripBegins(t *testing.T) {
	for _, list := range tripLists() {
		for trip := -1; trip <= 8; trip++ {
			for _, many := range wanted() {
				r := beginRec(trip, many...)
				is := trip == len(list)+1 && len(list) < 6
				got := did(list, r)
				if impl.TripsMay(list, r) != is || got.ok != is || !is && !isNoAnswer(got) {
					t.Fatal(list, r, got)
				}
				if is && !sameAnswer(got, tripsAnswer{append(slices.Clone(list), impl.Trip{Many: many, State: 1}), true}) {
					t.Fatal(list, r, got)
				}
			}
		}
	}
}

func TestP50FromTheFirstTripToTheLastAndOneMore(t *testing.T) {
	var list []impl.Trip
	for trip := 1; trip <= 6; trip++ {
		for _, other := range []int{trip - 1, trip + 1, trip + 2} {
			if r := beginRec(other, 1, 0, 2); impl.TripsMay(list, r) || !isNoAnswer(did(list, r)) {
				t.Error(trip, other)
			}
		}
		got := did(list, beginRec(trip, 1, 0, 2))
		if !got.ok || len(got.list) != trip || !sameTrip(got.list[trip-1], impl.Trip{Many: []int{1, 0, 2}, State: impl.TripAsked}) {
			t.Fatal(trip, got)
		}
		list = got.list
	}
	for trip := 0; trip <= 8; trip++ {
		if r := beginRec(trip, 1, 0, 2); impl.TripsMay(list, r) || !isNoAnswer(did(list, r)) {
			t.Error(trip)
		}
	}
}

func TestP44JustOneTripIsAnotherOneOrOneMore(t *testing.T) {
	done := 0
	eachDone(func(list []impl.Trip, r impl.Rec, behind []impl.Trip) {
		done++
		more := 0
		if r.Kind == impl.RecBegin {
			more = 1
		}
		if len(behind) != len(list)+more || !impl.TripsOk(behind) {
			t.Fatal(list, r, behind)
		}
		for i := range list {
			other := behind[i].State != list[i].State
			if other != (more == 0 && i == r.Trip-1) || !slices.Equal(behind[i].Many, list[i].Many) {
				t.Fatal(list, r, behind)
			}
		}
	})
	if done < 10000 {
		t.Error("hardly any record came:", done)
	}
}

func TestP44WhatATripWantsStays(t *testing.T) {
	for _, many := range wanted() {
		for _, way := range [][]impl.Rec{{yesRec(1), endRec(1)}, {noRec(1), endRec(1)}} {
			list := did(nil, beginRec(1, many...)).list
			for _, r := range way {
				list = did(list, r).list
				if len(list) != 1 || !slices.Equal(list[0].Many, many) {
					t.Fatal(many, r, list)
				}
			}
		}
	}
}

// growTrips calls f with all that may come behind these trips, one by one, of some records.
func growTrips(list []impl.Trip, recs []impl.Rec, deep int, f func(list []impl.Trip)) {
	f(list)
	if deep == 0 {
		return
	}
	for _, r := range recs {
		if d := did(list, r); d.ok {
			growTrips(d.list, recs, deep-1, f)
		}
	}
}

func TestP45YesStaysYesAndNoStaysNo(t *testing.T) {
	ways := map[int][]int{
		impl.TripYes:  {impl.TripYes, impl.TripKept},
		impl.TripNo:   {impl.TripNo, impl.TripLeft},
		impl.TripKept: {impl.TripKept},
		impl.TripLeft: {impl.TripLeft},
	}
	for state, way := range ways {
		for trip := 1; trip <= 3; trip++ {
			list := tripsIn(1, 2, 3)
			list[trip-1].State = state
			growTrips(list, recsOfAll(), 4, func(behind []impl.Trip) {
				if !slices.Contains(way, behind[trip-1].State) {
					t.Fatal(list, trip, behind)
				}
			})
		}
	}
}

func TestP45BehindItsEndNoRecordComes(t *testing.T) {
	eachDone(func(list []impl.Trip, r impl.Rec, behind []impl.Trip) {
		if r.Kind != impl.RecEnd {
			return
		}
		for _, next := range recsOf(r.Trip) {
			if impl.TripsMay(behind, next) || !isNoAnswer(did(behind, next)) {
				t.Fatal(list, r, next)
			}
		}
	})
}

func TestTheSameRecordOfATripMayNotComeAgain(t *testing.T) {
	eachDone(func(list []impl.Trip, r impl.Rec, behind []impl.Trip) {
		if impl.TripsMay(behind, r) || !isNoAnswer(did(behind, r)) {
			t.Fatal(list, r)
		}
	})
}

func TestTripsAreNewMemory(t *testing.T) {
	recs := slices.Concat(recsOfAll(), badRecs())
	for _, list := range slices.Concat(tripLists(), badTripLists()) {
		for _, r := range recs {
			given, r := roomyTrips(list), roomyRec(r)
			before, wrote := tripInts(given), recInts(r)
			impl.TripsOk(given)
			impl.TripsMay(given, r)
			a, b := did(given, r), did(given, r)
			if !slices.Equal(tripInts(given), before) || !slices.Equal(recInts(r), wrote) {
				t.Fatal("an argument is another one", list, r.Kind, r.Trip)
			}
			mustBeApart(t, tripSpans(a.list), slices.Concat(tripSpans(b.list), tripSpans(given), recSpans(r)))
		}
	}
}

// One list in two trips, and in the record too, must be so many lists in the answer.
func TestListsThatTripsShareAreApartInAnswers(t *testing.T) {
	many := []int{2, 1, 3, 9, 9}[:3]
	list := []impl.Trip{{Many: many, State: 1}, {Many: many, State: 2}, {Many: many[:3:3], State: 3}}
	recs := []impl.Rec{beginRec(4, many...), yesRec(1), noRec(1), endRec(2), endRec(3)}
	recs[0].Many = many
	for _, r := range recs {
		got := did(list, r)
		if !sameAnswer(got, didByDocument(list, r)) || !got.ok {
			t.Fatal(r, got)
		}
		mustBeApart(t, tripSpans(got.list), append(tripSpans(list), spanOf(many)))
	}
	if !slices.Equal(many[:5], []int{2, 1, 3, 9, 9}) {
		t.Error(many[:5])
	}
}
