package tests

import (
	"math"
	"slices"
	"testing"

	"loop.example/concierge/impl"
)

// deskSpans looks behind the ends of all lists of a desk too.
func deskSpans(d impl.Desk) []span {
	return append(logSpans(d.Log), spanOf(d.Told))
}

// roomyDesk is the desk, with room behind all its lists in which others stand.
func roomyDesk(d impl.Desk) impl.Desk {
	told := append(make([]impl.Word, 0, len(d.Told)+3), d.Told...)
	copy(told[len(told):cap(told)], []impl.Word{heldBy(1, 1), fullBy(2, 1), {Kind: -51, House: -52, Trip: -53, Many: -54}})
	return impl.Desk{Up: d.Up, Log: roomyLog(d.Log), Told: told}
}

// deskInts is all numbers of a desk, those in its spare room too.
func deskInts(d impl.Desk) []int {
	out := append(allInts(d.Log), len(d.Told), cap(d.Told))
	for _, w := range d.Told[:cap(d.Told)] {
		out = append(out, w.Kind, w.House, w.Trip, w.Many)
	}
	return out
}

// mustStayDesk fails if a call writes into its desk, or answers memory of it, or of another list of the answer, or something else than without the spare room.
func mustStayDesk(t *testing.T, d impl.Desk, call func(d impl.Desk) impl.Desk) {
	t.Helper()
	given := roomyDesk(d)
	before := deskInts(given)
	got := call(given)
	if !slices.Equal(deskInts(given), before) {
		t.Fatal("an argument is another one", d)
	}
	mustBeApart(t, deskSpans(got), deskSpans(given))
	if !sameDesk(got, call(d)) {
		t.Fatal("spare room counts", d)
	}
}

// memoryDesks is desks, ok and not, up and down, but for those that are too large to be copied often.
func memoryDesks() []impl.Desk {
	all := append(someDesks(), badDesks()...)
	return slices.DeleteFunc(all, func(d impl.Desk) bool { return len(deskInts(d)) > 2000 })
}

func TestDesksAreNewMemory(t *testing.T) {
	words := slices.Concat(answersOf(1), answersOf(3), answersOf(5)[:4], answersOf(6), wordsTo(1, 1)[:5], badWords()[:2])
	for _, d := range memoryDesks() {
		mustStayDesk(t, d, impl.DeskForce)
		mustStayDesk(t, d, impl.DeskRise)
		for _, n := range []int{math.MinInt, -1, 0, 1, 5, 6, 7, math.MaxInt} {
			mustStayDesk(t, d, func(d impl.Desk) impl.Desk { return impl.DeskFall(d, n) })
			mustStayDesk(t, d, func(d impl.Desk) impl.Desk { return given(d, n).desk })
		}
		for _, w := range words {
			mustStayDesk(t, d, func(d impl.Desk) impl.Desk { return impl.DeskHear(d, w) })
		}
	}
}

// Two desks heard from one, with room behind what it was told, must not write into each other.
func TestTwoDesksBehindOneAreApart(t *testing.T) {
	d := roomyDesk(deskWith(2, []impl.Word{heldBy(1, 1)}, beginRec(1, 1, 1, 0), beginRec(2, 0, 1, 0)))
	one, two := impl.DeskHear(d, heldBy(2, 1)), impl.DeskHear(d, fullBy(2, 1))
	mustBeApart(t, slices.Concat(deskSpans(one), deskSpans(two)), deskSpans(d))
	if one.Told[1] != heldBy(2, 1) || two.Told[1] != fullBy(2, 1) || one.Log.Recs[2].Kind != impl.RecYes || two.Log.Recs[2].Kind != impl.RecNo {
		t.Error(one, two)
	}
}

func TestWhatIsWantedIsNotKept(t *testing.T) {
	for _, d := range memoryDesks() {
		for _, many := range [][]int{{1, 0, 3}, {3, 3, 3}, {0, 0, 0}, {1, 1}, {1, 1, 1, 1}, {}} {
			given := append(append(make([]int, 0, 9), many...), -41, -42)[:len(many)]
			mustStayDesk(t, d, func(d impl.Desk) impl.Desk {
				got := begun(d, given).desk
				mustBeApart(t, deskSpans(got), []span{spanOf(given)})
				return got
			})
			if !slices.Equal(given, many) || !slices.Equal(given[:len(many)+2][len(many):], []int{-41, -42}) {
				t.Fatal("what is wanted is another one", given[:len(many)+2])
			}
		}
	}
}

func TestTripsOfDesksAreNewMemory(t *testing.T) {
	for _, d := range memoryDesks() {
		mustStayDesk(t, d, func(d impl.Desk) impl.Desk {
			impl.DeskOk(d)
			var answers []span
			for _, forced := range []bool{false, true, false, true} {
				answers = append(answers, tripSpans(impl.DeskTrips(d, forced))...)
			}
			mustBeApart(t, answers, deskSpans(d))
			return impl.Desk{}
		})
	}
}

func TestWordsOfDesksAreNewMemory(t *testing.T) {
	for _, d := range memoryDesks() {
		mustStayDesk(t, d, func(d impl.Desk) impl.Desk {
			words := impl.DeskWords(d)
			mustBeApart(t, []span{spanOf(words), spanOf(impl.DeskWords(d))}, deskSpans(d))
			return impl.Desk{Told: slices.Clone(words)}
		})
	}
}

// What stands behind the end of a list is no part of it.
func TestSpareRoomOfDesksDoesNotCount(t *testing.T) {
	for _, d := range memoryDesks() {
		roomy := roomyDesk(d)
		if impl.DeskOk(roomy) != impl.DeskOk(d) {
			t.Fatal(d)
		}
		for _, forced := range []bool{false, true} {
			if !sameTrips(impl.DeskTrips(roomy, forced), impl.DeskTrips(d, forced)) {
				t.Fatal(d, forced)
			}
		}
	}
}

// One list in several records of an argument must be so many lists in the answer.
func TestListsThatADeskSharesAreApartInAnswers(t *testing.T) {
	many := []int{1, 0, 2, 9, 9}[:3]
	begin := func(trip int) impl.Rec { return impl.Rec{Kind: impl.RecBegin, Trip: trip, Many: many} }
	d := deskWith(2, []impl.Word{heldBy(1, 1)}, begin(1), begin(2), begin(3))
	shared := append(deskSpans(d), spanOf(many))
	answers := []impl.Desk{impl.DeskForce(d), impl.DeskRise(d), impl.DeskFall(d, 1), begun(d, many).desk, given(d, 2).desk}
	for _, w := range answersOf(1) {
		answers = append(answers, impl.DeskHear(d, w))
	}
	for _, got := range answers {
		if isNoDesk(got) {
			t.Error(got)
		}
		mustBeApart(t, deskSpans(got), shared)
	}
	mustBeApart(t, tripSpans(impl.DeskTrips(d, false)), shared)
	if !slices.Equal(many[:5], []int{1, 0, 2, 9, 9}) {
		t.Error(many[:5])
	}
}

// emptied is the desk, each list of nothing being another kind of nothing.
func emptied(d impl.Desk) impl.Desk {
	recs := []impl.Rec{}
	for _, r := range d.Log.Recs {
		if len(r.Many) == 0 {
			r.Many = []int{}
		}
		recs = append(recs, r)
	}
	return impl.Desk{Up: d.Up, Log: impl.Log{Recs: recs, Forced: d.Log.Forced}, Told: append([]impl.Word{}, d.Told...)}
}

func TestNilAndEmptyListsAreOneValueInDesks(t *testing.T) {
	words := slices.Concat(answersOf(1), answersOf(3), answersOf(6))
	for _, d := range memoryDesks() {
		other := emptied(d)
		if impl.DeskOk(d) != impl.DeskOk(other) || !slices.Equal(impl.DeskWords(d), impl.DeskWords(other)) {
			t.Fatal(d)
		}
		if !sameDesk(impl.DeskForce(d), impl.DeskForce(other)) || !sameDesk(impl.DeskRise(d), impl.DeskRise(other)) {
			t.Fatal(d)
		}
		for _, forced := range []bool{false, true} {
			if !sameTrips(impl.DeskTrips(d, forced), impl.DeskTrips(other, forced)) {
				t.Fatal(d, forced)
			}
		}
		for _, n := range []int{-1, 0, 1, 6, 40} {
			if !sameDesk(impl.DeskFall(d, n), impl.DeskFall(other, n)) || !sameDeskAnswer(given(d, n), given(other, n)) {
				t.Fatal(d, n)
			}
		}
		if !sameDeskAnswer(begun(d, nil), begun(other, []int{})) || !sameDeskAnswer(begun(d, []int{1, 2, 0}), begun(other, []int{1, 2, 0})) {
			t.Fatal(d)
		}
		for _, w := range words {
			if !sameDesk(impl.DeskHear(d, w), impl.DeskHear(other, w)) {
				t.Fatal(d, w)
			}
		}
	}
}

// A desk that is down, and whose list of what it was told is empty but there, was told nothing.
func TestDownAndToldAnEmptyList(t *testing.T) {
	d := impl.Desk{Log: impl.Log{Recs: deskRecs(), Forced: 3}, Told: []impl.Word{}}
	if !impl.DeskOk(d) || !sameDesk(impl.DeskRise(d), deskWith(3, nil, deskRecs()...)) {
		t.Error(d)
	}
}

// Asked a hundred times, whatever a map goes through first, the answers are the same, in the order of trips and houses, or as they were told.
func TestDesksAnswerTheSameAtEachRun(t *testing.T) {
	var recs []impl.Rec
	for trip := 1; trip <= 6; trip++ {
		recs = append(recs, beginRec(trip, 3, 2, 1))
	}
	recs = append(recs, yesRec(2), noRec(4), yesRec(6))
	told := answersOfFirst(6)
	slices.Reverse(told)
	told = slices.DeleteFunc(told, func(w impl.Word) bool { return (w.House+w.Trip+w.Kind)%2 == 0 })
	d := deskWith(9, told, recs...)
	words, hears := deskWordsByDocument(d), answersOfFirst(6)
	if len(words) < 8 {
		t.Fatal(words)
	}
	for range 100 {
		if got := impl.DeskWords(d); !slices.Equal(got, words) {
			t.Fatal(got)
		}
		for _, w := range hears {
			if got := impl.DeskHear(d, w); !sameDesk(got, deskHeardByDocument(d, w)) {
				t.Fatal(w, got)
			}
		}
		if !slices.Equal(impl.DeskForce(d).Told, told) || !slices.Equal(given(d, 1).desk.Told, told) || !sameTrips(impl.DeskTrips(d, true), sureTrips(d)) {
			t.Fatal(d)
		}
	}
}
