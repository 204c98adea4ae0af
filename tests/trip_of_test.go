package tests

import (
	"math/rand/v2"
	"slices"
	"testing"

	"loop.example/concierge/impl"
)

func TestP47TripsOfNoRecord(t *testing.T) {
	for _, none := range [][]impl.Rec{nil, {}, deskRecs()[:0]} {
		if got := tripsBehind(none); !got.ok || len(got.list) != 0 {
			t.Error(got)
		}
	}
}

func TestP47TripsOfRecords(t *testing.T) {
	got := tripsBehind(deskRecs())
	want := []impl.Trip{
		{Many: []int{1, 0, 0}, State: impl.TripLeft},
		{Many: []int{0, 2, 1}, State: impl.TripKept},
		{Many: []int{3, 3, 3}, State: impl.TripNo},
		{Many: []int{0, 0, 1}, State: impl.TripKept},
		{Many: []int{2, 1, 0}, State: impl.TripYes},
		{Many: []int{0, 3, 0}, State: impl.TripAsked},
	}
	if !sameAnswer(got, tripsAnswer{want, true}) {
		t.Fatal(got)
	}
	for n := range len(deskRecs()) + 1 {
		if !mustTripsOf(t, deskRecs()[:n]).ok {
			t.Error(n)
		}
	}
}

// All trips that there can be, each with all records that it can have.
func TestP47AllTripsToTheirEnds(t *testing.T) {
	var recs []impl.Rec
	for trip := 1; trip <= 6; trip++ {
		recs = append(recs, beginRec(trip, trip%4, 1, 3))
	}
	for trip := 6; trip >= 1; trip-- {
		recs = append(recs, []impl.Rec{yesRec(trip), noRec(trip)}[trip%2], endRec(trip))
	}
	got := mustTripsOf(t, recs)
	for i, trip := range got.list {
		if trip.State != []int{impl.TripLeft, impl.TripKept}[i%2] {
			t.Error(i, trip)
		}
	}
	for _, r := range okRecs() {
		if d := tripsBehind(append(slices.Clone(recs), r)); !got.ok || !isNoAnswer(d) {
			t.Fatal(r, d)
		}
	}
}

func TestP47OneMayNotComeOfTrips(t *testing.T) {
	never := slices.Concat(badRecs(), []impl.Rec{holdRec(1, 1), closeRec(1), undoRec(1), undoRec(6), beginRec(1, 1, 1, 1)})
	recs := deskRecs()
	for at := range len(recs) + 1 {
		for i, r := range never {
			// A beginning of the first trip may come ahead of all; then that of the records may not.
			if got := tripsBehind(slices.Insert(slices.Clone(recs), at, r)); !isNoAnswer(got) {
				t.Error(at, i, got)
			}
		}
		for _, r := range recsOfAll() {
			mustTripsOf(t, slices.Insert(slices.Clone(recs), at, r))
		}
		if at < len(recs) {
			if got := tripsBehind(slices.Insert(slices.Clone(recs), at, recs[at])); !isNoAnswer(got) {
				t.Error(at, got)
			}
			mustTripsOf(t, slices.Delete(slices.Clone(recs), at, at+1))
		}
	}
}

// eachRow calls f with all rows of at most so many of these records, each as often as may be.
func eachRow(recs []impl.Rec, most int, f func(row []impl.Rec)) {
	f(nil)
	last := [][]impl.Rec{nil}
	for range most {
		var next [][]impl.Rec
		for _, row := range last {
			for _, r := range recs {
				more := append(slices.Clone(row), r)
				next = append(next, more)
				f(more)
			}
		}
		last = next
	}
}

func TestP47OneTripInEveryOrder(t *testing.T) {
	recs := []impl.Rec{beginRec(1, 2, 0, 1), yesRec(1), noRec(1), endRec(1)}
	var ways [][]impl.Rec
	eachRow(recs, 6, func(row []impl.Rec) {
		if mustTripsOf(t, row).ok {
			ways = append(ways, row)
		}
	})
	// None, the beginning, with a yes or a no behind it, and each of these with an end.
	if len(ways) != 6 {
		t.Error(ways)
	}
}

func TestP47TwoTripsMixed(t *testing.T) {
	recs := []impl.Rec{
		beginRec(1, 2, 0, 1), yesRec(1), noRec(1), endRec(1),
		beginRec(2, 0, 3, 0), yesRec(2), noRec(2), endRec(2),
	}
	done := 0
	eachRow(recs, 6, func(row []impl.Rec) {
		if mustTripsOf(t, row).ok {
			done++
		}
	})
	if done < 100 {
		t.Error("hardly any row is of trips:", done)
	}
}

// has says whether a record of this kind and trip is among them.
func has(recs []impl.Rec, kind, trip int) bool {
	return slices.ContainsFunc(recs, func(r impl.Rec) bool { return r.Kind == kind && r.Trip == trip })
}

// mustEndAsDecided holds each trip of records that may come against what its records have.
func mustEndAsDecided(t *testing.T, recs []impl.Rec, list []impl.Trip) {
	t.Helper()
	for i, trip := range list {
		yes, no, end := has(recs, 5, i+1), has(recs, 6, i+1), has(recs, 7, i+1)
		if yes && no || !has(recs, 4, i+1) {
			t.Fatal(recs, list)
		}
		if (trip.State == impl.TripKept) != (yes && end) || (trip.State == impl.TripLeft) != (no && end) {
			t.Fatal(recs, list)
		}
		if (trip.State == impl.TripYes) != (yes && !end) || (trip.State == impl.TripNo) != (no && !end) {
			t.Fatal(recs, list)
		}
	}
}

func TestP48KeptJustByAYesAndLeftJustByANo(t *testing.T) {
	recs := []impl.Rec{beginRec(1, 1, 1, 1), yesRec(1), noRec(1), endRec(1), beginRec(2, 1, 0, 0), yesRec(2), noRec(2), endRec(2)}
	eachRow(recs, 6, func(row []impl.Rec) {
		if got := tripsBehind(row); got.ok {
			mustEndAsDecided(t, row, got.list)
		}
	})
	for n := range len(deskRecs()) + 1 {
		mustEndAsDecided(t, deskRecs()[:n], tripsBehind(deskRecs()[:n]).list)
	}
}

func TestP47P48LongWalks(t *testing.T) {
	dice := rand.New(rand.NewPCG(47, 48))
	done, full := 0, 0
	for range 1500 {
		var list []impl.Trip
		var recs []impl.Rec
		for range 150 {
			r := recsOf(dice.IntN(6) + 1)[4+dice.IntN(5)]
			if r.Kind == impl.RecBegin {
				r.Many = wanted()[dice.IntN(63)]
			}
			next := mustTake(t, list, r)
			if got := mustTripsOf(t, append(slices.Clone(recs), r)); !sameAnswer(got, next) {
				t.Fatal(recs, r, got)
			}
			if next.ok {
				list, recs = next.list, append(recs, r)
				done++
			}
			mustEndAsDecided(t, recs, list)
		}
		if len(list) == 6 {
			full++
		}
	}
	if done < 10000 || full < 100 {
		t.Error("hardly any record came:", done, full)
	}
}

func TestP47FarMoreRecordsThanTripsHave(t *testing.T) {
	for _, recs := range [][]impl.Rec{slices.Repeat(deskRecs(), 10000), slices.Repeat([]impl.Rec{beginRec(1, 1, 0, 0)}, 50000)} {
		if got := tripsBehind(recs); !isNoAnswer(got) {
			t.Error(got)
		}
	}
}

// mustLeaveRecs fails if TripsOf writes into its records, or answers memory of them, or of another answer.
func mustLeaveRecs(t *testing.T, recs []impl.Rec) {
	t.Helper()
	given := roomyLog(impl.Log{Recs: recs})
	before := allInts(given)
	a, b := tripsBehind(given.Recs), tripsBehind(given.Recs)
	if !slices.Equal(allInts(given), before) {
		t.Fatal("an argument is another one")
	}
	if !sameAnswer(a, tripsBehind(recs)) {
		t.Fatal("spare room counts", recs)
	}
	mustBeApart(t, tripSpans(a.list), slices.Concat(tripSpans(b.list), logSpans(given)))
}

func TestTripsOfRecordsAreNewMemory(t *testing.T) {
	recs := deskRecs()
	for n := range len(recs) + 1 {
		mustLeaveRecs(t, recs[:n])
		for _, bad := range badRecs() {
			mustLeaveRecs(t, append(slices.Clone(recs[:n]), bad))
		}
	}
}

// One list in several records must be so many lists in the answer.
func TestListsThatRecordsShareAreApartInTrips(t *testing.T) {
	many := []int{1, 2, 3, 9}[:3]
	var recs []impl.Rec
	for trip := 1; trip <= 6; trip++ {
		recs = append(recs, impl.Rec{Kind: impl.RecBegin, Trip: trip, Many: many})
	}
	got := mustTripsOf(t, recs)
	mustBeApart(t, tripSpans(got.list), append(logSpans(impl.Log{Recs: recs}), spanOf(many)))
	for i := range got.list {
		got.list[i].Many[0] = 3 - i%2
	}
	if !got.ok || !slices.Equal(many[:4], []int{1, 2, 3, 9}) || !sameAnswer(tripsBehind(recs), tripsByDocument(recs)) {
		t.Error(got, many[:4])
	}
}
