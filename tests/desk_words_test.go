package tests

import (
	"math"
	"slices"
	"testing"

	"loop.example/concierge/impl"
)

func TestP57DeskWords(t *testing.T) {
	said := map[int]int{}
	eachDesk(func(d impl.Desk) {
		got := impl.DeskWords(d)
		if !slices.Equal(got, deskWordsByDocument(d)) {
			t.Fatal(d, got)
		}
		if words := impl.DeskWords(down(d)); len(words) != 0 {
			t.Fatal(d, words)
		}
		for i, w := range got {
			said[w.Kind]++
			if !impl.WordOk(w) || w.Kind > impl.WordUndo {
				t.Fatal(d, got)
			}
			trip := sureTrips(d)[w.Trip-1]
			if trip.Many[w.House-1] == 0 || trip.State != w.Kind {
				t.Fatal(d, got)
			}
			if i > 0 && got[i-1].Trip*10+got[i-1].House >= w.Trip*10+w.House {
				t.Fatal(d, got)
			}
		}
	})
	for kind := 1; kind <= 3; kind++ {
		if said[kind] < 1000 {
			t.Error("hardly any word of a kind:", said)
		}
	}
}

// What each trip of all is told to its houses, by the records that are forced, one more at a time.
func TestP57WordsOfSeveralTrips(t *testing.T) {
	recs := []impl.Rec{beginRec(1, 1, 0, 3), beginRec(2, 0, 2, 0), yesRec(1), noRec(2), endRec(1), beginRec(3, 3, 1, 2)}
	want := [][]string{
		nil,
		{"hold 1 1 1", "hold 3 1 3"},
		{"hold 1 1 1", "hold 3 1 3", "hold 2 2 2"},
		{"close 1 1", "close 3 1", "hold 2 2 2"},
		{"close 1 1", "close 3 1", "undo 2 2"},
		{"undo 2 2"},
		{"undo 2 2", "hold 1 3 3", "hold 2 3 1", "hold 3 3 2"},
	}
	for forced, texts := range want {
		if got := textsOf(impl.DeskWords(deskWith(forced, nil, recs...))); !slices.Equal(got, texts) {
			t.Error(forced, got)
		}
	}
}

func textsOf(words []impl.Word) []string {
	var out []string
	for _, w := range words {
		out = append(out, impl.WordText(w))
	}
	return out
}

// A word is needless behind just one answer: of its own kind, of its own house, of its own trip.
func TestP57OnlyItsOwnAnswerMakesAWordNeedless(t *testing.T) {
	done := map[int]int{impl.TripAsked: impl.WordHeld, impl.TripYes: impl.WordClosed, impl.TripNo: impl.WordUndone}
	for _, recs := range tripRows(2, 1, 0, 2)[:3] {
		recs = append([]impl.Rec{beginRec(1, 2, 2, 2), yesRec(1)}, recs...)
		state := tripsByDocument(recs).list[1].State
		silent := impl.DeskWords(deskWith(len(recs), nil, recs...))
		if len(silent) != 5 || silent[3].House != 1 || silent[4].House != 3 {
			t.Fatal(silent)
		}
		for _, w := range answersOf(2) {
			want := slices.DeleteFunc(slices.Clone(silent), func(said impl.Word) bool {
				return said.Trip == 2 && said.House == w.House && w.Kind == done[state]
			})
			if got := impl.DeskWords(deskWith(len(recs), []impl.Word{w}, recs...)); !slices.Equal(got, want) {
				t.Error(state, w, got)
			}
		}
	}
}

// Decided, and not forced: what is said is still what was said before.
func TestP57DecidedAndNotForced(t *testing.T) {
	for _, decided := range []impl.Rec{yesRec(1), noRec(1)} {
		d := deskWith(1, nil, beginRec(1, 0, 1, 2), decided)
		if got := textsOf(impl.DeskWords(d)); !slices.Equal(got, []string{"hold 2 1 1", "hold 3 1 2"}) {
			t.Error(decided, got)
		}
		d.Told = []impl.Word{heldBy(2, 1), heldBy(3, 1)}
		if got := impl.DeskWords(d); len(got) != 0 {
			t.Error(decided, got)
		}
		ended := deskWith(2, nil, beginRec(1, 0, 1, 2), decided, endRec(1))
		if got := impl.DeskWords(ended); len(got) != 2 || got[0].Kind != decided.Kind-3 {
			t.Error(decided, got)
		}
		if got := impl.DeskWords(impl.DeskForce(ended)); len(got) != 0 {
			t.Error(decided, got)
		}
	}
}

func TestP57AsManyWordsAsThereCanBe(t *testing.T) {
	var recs []impl.Rec
	for trip := 1; trip <= 6; trip++ {
		recs = append(recs, beginRec(trip, 1, 2, 3))
	}
	d := deskWith(6, nil, recs...)
	got := impl.DeskWords(d)
	if len(got) != 18 {
		t.Fatal(got)
	}
	for i, w := range got {
		if w != (impl.Word{Kind: 1, House: 1 + i%3, Trip: 1 + i/3, Many: 1 + i%3}) {
			t.Error(i, w)
		}
		d = impl.DeskHear(d, impl.Word{Kind: impl.WordHeld, House: w.House, Trip: w.Trip})
		if left := impl.DeskWords(d); !slices.Equal(left, got[i+1:]) {
			t.Error(i, left)
		}
	}
}

func TestP58DeskFall(t *testing.T) {
	eachDesk(func(d impl.Desk) {
		n := len(d.Log.Recs)
		for _, desk := range []impl.Desk{d, down(d)} {
			for _, keep := range []int{math.MinInt, -1, 0, 1, 2, n - d.Log.Forced, n + 1, 40, math.MaxInt} {
				got := impl.DeskFall(desk, keep)
				if !sameDesk(got, deskFellByDocument(d, keep)) || !sameLog(got.Log, impl.LogFall(d.Log, keep)) {
					t.Fatal(desk, keep, got)
				}
				if got.Up || len(got.Told) != 0 || !impl.DeskOk(got) || len(impl.DeskWords(got)) != 0 {
					t.Fatal(desk, keep, got)
				}
			}
		}
		risen := impl.DeskRise(impl.DeskFall(d, 0))
		if !sameDesk(risen, deskWith(d.Log.Forced, nil, d.Log.Recs[:d.Log.Forced]...)) {
			t.Fatal(d, risen)
		}
		if !sameTrips(impl.DeskTrips(risen, false), sureTrips(d)) || !sameTrips(impl.DeskTrips(risen, true), sureTrips(d)) {
			t.Fatal(d, risen)
		}
	})
}

func TestP58SomeIsKept(t *testing.T) {
	d := deskWith(1, []impl.Word{heldBy(1, 1), fullBy(2, 2)}, beginRec(1, 1, 0, 0), beginRec(2, 0, 1, 1), yesRec(1), noRec(2))
	want := map[int][]int{math.MinInt: {1}, -1: {1}, 0: {1}, 1: {1, 1}, 2: {2, 1}, 3: {2, 3}, 4: {2, 3}, math.MaxInt: {2, 3}}
	for keep, states := range want {
		risen := impl.DeskRise(impl.DeskFall(d, keep))
		list := impl.DeskTrips(risen, true)
		if !sameTrips(list, impl.DeskTrips(risen, false)) || len(list) != len(states) || len(risen.Told) != 0 {
			t.Error(keep, risen)
			continue
		}
		for i, state := range states {
			if list[i].State != state {
				t.Error(keep, list)
			}
		}
	}
}

func TestP58RiseOfDesks(t *testing.T) {
	eachDesk(func(d impl.Desk) {
		if got := impl.DeskRise(d); !sameDesk(got, d) {
			t.Fatal(d, got)
		}
		want := down(d)
		want.Up = true
		got := impl.DeskRise(down(d))
		if !sameDesk(got, want) || !impl.DeskOk(got) || !sameDesk(impl.DeskRise(got), got) {
			t.Fatal(d, got)
		}
	})
}

func TestP59DeskForce(t *testing.T) {
	eachDesk(func(d impl.Desk) {
		want := d
		want.Log.Forced = len(d.Log.Recs)
		got := impl.DeskForce(d)
		if !sameDesk(got, want) || !sameLog(got.Log, impl.LogForce(d.Log)) || !sameDesk(impl.DeskForce(got), got) || !impl.DeskOk(got) {
			t.Fatal(d, got)
		}
		if !sameTrips(impl.DeskTrips(got, true), allTrips(d)) {
			t.Fatal(d, got)
		}
		if still := impl.DeskForce(down(d)); !sameDesk(still, down(d)) {
			t.Fatal(d, still)
		}
	})
}

func TestP63RisenADeskSaysAllAnew(t *testing.T) {
	eachDesk(func(d impl.Desk) {
		for _, keep := range []int{-1, 0, 1, 40} {
			left := leftOf(len(d.Log.Recs), d.Log.Forced, keep)
			var want []impl.Word
			for i, trip := range tripsByDocument(d.Log.Recs[:left]).list {
				for _, house := range housesByDocument(trip.Many) {
					w := impl.Word{Kind: trip.State, House: house, Trip: i + 1}
					if w.Kind == impl.WordHold {
						w.Many = trip.Many[house-1]
					}
					if trip.State <= impl.TripNo {
						want = append(want, w)
					}
				}
			}
			if got := impl.DeskWords(impl.DeskRise(impl.DeskFall(d, keep))); !slices.Equal(got, want) {
				t.Fatal(d, keep, got, want)
			}
		}
	})
}

// From the first word to the last, by the desk's functions alone.
func TestATripFromItsBeginningToItsEnd(t *testing.T) {
	d := impl.DeskForce(begun(impl.DeskNew(), []int{2, 0, 1}).desk)
	for _, step := range []struct {
		said  []string
		heard []impl.Word
		state int
	}{
		{[]string{"hold 1 1 2", "hold 3 1 1"}, []impl.Word{heldBy(3, 1)}, impl.TripAsked},
		{[]string{"hold 1 1 2"}, []impl.Word{heldBy(3, 1), heldBy(1, 1)}, impl.TripYes},
		{[]string{"close 1 1", "close 3 1"}, []impl.Word{closedBy(1, 1), undoneBy(3, 1)}, impl.TripYes},
		{[]string{"close 3 1"}, []impl.Word{heldBy(1, 1), closedBy(3, 1)}, impl.TripKept},
		{nil, []impl.Word{fullBy(1, 1), undoneBy(1, 1)}, impl.TripKept},
	} {
		if got := textsOf(impl.DeskWords(d)); !slices.Equal(got, step.said) {
			t.Fatal(got, step.said)
		}
		for _, w := range step.heard {
			d = impl.DeskHear(d, w)
		}
		if got := impl.DeskTrips(d, false)[0].State; got != step.state {
			t.Fatal(step, got)
		}
		d = impl.DeskForce(d)
	}
}
