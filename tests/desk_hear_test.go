package tests

import (
	"math/rand/v2"
	"slices"
	"testing"

	"loop.example/concierge/impl"
)

// Each row: what was written down of trip 1, how many of that are forced, what was told before, what is heard, and the kind of the record that comes of it; 0, if none does.
var deskHearRows = []struct {
	name   string
	many   []int
	then   []impl.Rec
	forced int
	told   []impl.Word
	heard  impl.Word
	writes int
}{
	{"one house holds", []int{0, 2, 0}, nil, 1, nil, heldBy(2, 1), impl.RecYes},
	{"one house is full", []int{0, 2, 0}, nil, 1, nil, fullBy(2, 1), impl.RecNo},
	{"not even begun by what is forced", []int{0, 2, 0}, nil, 0, nil, heldBy(2, 1), impl.RecYes},
	{"full, not even begun by what is forced", []int{0, 2, 0}, nil, 0, nil, fullBy(2, 1), impl.RecNo},
	{"another house holds", []int{0, 2, 0}, nil, 1, nil, heldBy(1, 1), 0},
	{"another house is full", []int{0, 2, 0}, nil, 1, nil, fullBy(3, 1), 0},
	{"another house is full, all hold", []int{0, 2, 0}, nil, 1, []impl.Word{fullBy(3, 1)}, heldBy(2, 1), impl.RecYes},
	{"one of two holds", []int{1, 0, 3}, nil, 1, nil, heldBy(1, 1), 0},
	{"both of two hold", []int{1, 0, 3}, nil, 1, []impl.Word{heldBy(1, 1)}, heldBy(3, 1), impl.RecYes},
	{"both of two hold, the other way about", []int{1, 0, 3}, nil, 1, []impl.Word{heldBy(3, 1)}, heldBy(1, 1), impl.RecYes},
	{"one of two, and another one, hold", []int{1, 0, 3}, nil, 1, []impl.Word{heldBy(1, 1)}, heldBy(2, 1), 0},
	{"two of three hold", []int{1, 1, 1}, nil, 1, []impl.Word{heldBy(1, 1)}, heldBy(2, 1), 0},
	{"three of three hold", []int{1, 1, 1}, nil, 1, []impl.Word{heldBy(3, 1), heldBy(1, 1)}, heldBy(2, 1), impl.RecYes},
	{"two of three hold, one is full", []int{1, 1, 1}, nil, 1, []impl.Word{heldBy(3, 1), heldBy(1, 1)}, fullBy(2, 1), impl.RecNo},
	{"one is full ahead of all", []int{1, 1, 1}, nil, 1, nil, fullBy(2, 1), impl.RecNo},
	{"full once, and held since", []int{2, 0, 0}, nil, 1, []impl.Word{fullBy(1, 1)}, heldBy(1, 1), impl.RecNo},
	{"full was told, something else is heard", []int{2, 0, 0}, nil, 1, []impl.Word{fullBy(1, 1)}, undoneBy(3, 1), impl.RecNo},
	{"full was told, and is heard again", []int{2, 0, 0}, nil, 1, []impl.Word{fullBy(1, 1)}, fullBy(1, 1), impl.RecNo},
	{"held was told, and is heard again", []int{2, 0, 0}, nil, 1, []impl.Word{heldBy(1, 1)}, heldBy(1, 1), impl.RecYes},
	{"closed, and asked", []int{2, 0, 0}, nil, 1, nil, closedBy(1, 1), 0},
	{"undone, and asked", []int{2, 0, 0}, nil, 1, nil, undoneBy(1, 1), 0},
	{"yes, closed", []int{2, 0, 0}, []impl.Rec{yesRec(1)}, 2, nil, closedBy(1, 1), impl.RecEnd},
	{"yes, not forced, closed", []int{2, 0, 0}, []impl.Rec{yesRec(1)}, 1, nil, closedBy(1, 1), 0},
	{"yes, nothing forced, closed", []int{2, 0, 0}, []impl.Rec{yesRec(1)}, 0, nil, closedBy(1, 1), 0},
	{"yes, closed was told ahead of its being forced", []int{2, 0, 0}, []impl.Rec{yesRec(1)}, 2, []impl.Word{closedBy(1, 1)}, closedBy(1, 1), impl.RecEnd},
	{"yes, undone", []int{2, 0, 0}, []impl.Rec{yesRec(1)}, 2, nil, undoneBy(1, 1), 0},
	{"yes, full", []int{2, 0, 0}, []impl.Rec{yesRec(1)}, 2, nil, fullBy(1, 1), 0},
	{"yes, held", []int{2, 0, 0}, []impl.Rec{yesRec(1)}, 2, nil, heldBy(1, 1), 0},
	{"yes, one of two closed", []int{0, 1, 1}, []impl.Rec{yesRec(1)}, 2, nil, closedBy(2, 1), 0},
	{"yes, one closed and one undone", []int{0, 1, 1}, []impl.Rec{yesRec(1)}, 2, []impl.Word{undoneBy(3, 1)}, closedBy(2, 1), 0},
	{"yes, both closed", []int{0, 1, 1}, []impl.Rec{yesRec(1)}, 2, []impl.Word{closedBy(3, 1)}, closedBy(2, 1), impl.RecEnd},
	{"no, undone", []int{0, 0, 3}, []impl.Rec{noRec(1)}, 2, nil, undoneBy(3, 1), impl.RecEnd},
	{"no, not forced, undone", []int{0, 0, 3}, []impl.Rec{noRec(1)}, 1, nil, undoneBy(3, 1), 0},
	{"no, nothing forced, undone", []int{0, 0, 3}, []impl.Rec{noRec(1)}, 0, nil, undoneBy(3, 1), 0},
	{"no, closed", []int{0, 0, 3}, []impl.Rec{noRec(1)}, 2, nil, closedBy(3, 1), 0},
	{"no, full", []int{0, 0, 3}, []impl.Rec{noRec(1)}, 2, nil, fullBy(3, 1), 0},
	{"no, held", []int{0, 0, 3}, []impl.Rec{noRec(1)}, 2, nil, heldBy(3, 1), 0},
	{"no, two of three undone", []int{1, 2, 3}, []impl.Rec{noRec(1)}, 2, []impl.Word{undoneBy(3, 1)}, undoneBy(1, 1), 0},
	{"no, all undone", []int{1, 2, 3}, []impl.Rec{noRec(1)}, 2, []impl.Word{undoneBy(3, 1), undoneBy(1, 1)}, undoneBy(2, 1), impl.RecEnd},
	{"kept", []int{2, 0, 0}, []impl.Rec{yesRec(1), endRec(1)}, 3, nil, closedBy(1, 1), 0},
	{"kept, the end not forced", []int{2, 0, 0}, []impl.Rec{yesRec(1), endRec(1)}, 2, nil, closedBy(1, 1), 0},
	{"left", []int{2, 0, 0}, []impl.Rec{noRec(1), endRec(1)}, 3, []impl.Word{undoneBy(1, 1)}, fullBy(1, 1), 0},
	{"left, the end not forced", []int{2, 0, 0}, []impl.Rec{noRec(1), endRec(1)}, 2, nil, undoneBy(1, 1), 0},
}

func TestDeskHearOfEachAnswerAtEachState(t *testing.T) {
	for _, row := range deskHearRows {
		recs := append([]impl.Rec{beginRec(1, row.many...)}, row.then...)
		got := impl.DeskHear(deskWith(row.forced, row.told, recs...), row.heard)
		want := deskWith(row.forced, row.told, recs...)
		if !slices.Contains(row.told, row.heard) {
			want.Told = append(slices.Clone(row.told), row.heard)
		}
		if row.writes != 0 {
			want.Log.Recs = append(slices.Clone(recs), impl.Rec{Kind: row.writes, Trip: 1})
		}
		if !sameDesk(got, want) {
			t.Error(row.name, got)
		}
	}
}

func TestDeskHearOfEveryDesk(t *testing.T) {
	eachDeskHear(func(d impl.Desk, w impl.Word, behind impl.Desk) {
		if !sameDesk(behind, deskHeardByDocument(d, w)) {
			t.Fatal(d, w, behind)
		}
	})
}

// mustGoDesk holds all that a desk answers against the document.
func mustGoDesk(t *testing.T, d impl.Desk, w impl.Word, n int, many []int) {
	t.Helper()
	if !deskOkByDocument(d) || !impl.DeskOk(d) {
		t.Fatal(d)
	}
	if got := impl.DeskHear(d, w); !sameDesk(got, deskHeardByDocument(d, w)) {
		t.Fatal(d, w, got)
	}
	if !sameDeskAnswer(begun(d, many), begunByDocument(d, many)) || !sameDeskAnswer(given(d, n), givenByDocument(d, n)) {
		t.Fatal(d, n, many, begun(d, many), given(d, n))
	}
	if !sameTrips(impl.DeskTrips(d, false), allTrips(d)) || !sameTrips(impl.DeskTrips(d, true), sureTrips(d)) {
		t.Fatal(d)
	}
	if got := impl.DeskWords(d); !slices.Equal(got, deskWordsByDocument(d)) {
		t.Fatal(d, got)
	}
	force, rise := d, d
	rise.Up = true
	if d.Up {
		force.Log.Forced = len(d.Log.Recs)
	}
	if !sameDesk(impl.DeskForce(d), force) || !sameDesk(impl.DeskRise(d), rise) || !sameDesk(impl.DeskFall(d, n), deskFellByDocument(d, n)) {
		t.Fatal(d, n, impl.DeskForce(d), impl.DeskRise(d), impl.DeskFall(d, n))
	}
}

// Long lives of desks, whose words come in any order, with all else that can happen between.
func TestDesksOnLongWalks(t *testing.T) {
	dice := rand.New(rand.NewPCG(56, 13))
	words := slices.Concat(answersOfFirst(6), answersOfFirst(6), answersOfFirst(6), wordsToAll(1), wordsToAll(3), badWords())
	ended := 0
	for range 600 {
		d := impl.DeskNew()
		for range 120 {
			w, n := words[dice.IntN(len(words))], dice.IntN(9)-1
			if said := impl.DeskWords(d); len(said) > 0 && dice.IntN(3) > 0 {
				// What a house would answer, so that trips come to their ends.
				w = said[dice.IntN(len(said))]
				w.Kind, w.Many = []int{0, 4, 6, 7}[w.Kind], 0
			}
			many := []int{dice.IntN(4), dice.IntN(4), dice.IntN(5) - dice.IntN(2)}
			mustGoDesk(t, d, w, n, many)
			switch next := dice.IntN(20); {
			case next == 0:
				d = impl.DeskFall(d, n)
			case next < 3:
				d = impl.DeskRise(d)
			case next < 6:
				d = impl.DeskForce(d)
			case next == 6 && given(d, n).ok:
				d = given(d, n).desk
			case next == 7 && begun(d, many).ok:
				d = begun(d, many).desk
			default:
				d = impl.DeskHear(d, w)
			}
		}
		for _, trip := range sureTrips(d) {
			if trip.State > impl.TripNo {
				ended++
			}
		}
	}
	if ended < 500 {
		t.Error("hardly any trip ended:", ended)
	}
}

func TestP54DecidedByWhatWasTold(t *testing.T) {
	became := map[int]int{}
	eachDeskHear(func(d impl.Desk, w impl.Word, behind impl.Desk) {
		for i, trip := range impl.DeskTrips(behind, false) {
			was := allTrips(d)[i]
			if trip.State == was.State {
				continue
			}
			became[trip.State]++
			houses := len(housesByDocument(trip.Many))
			if trip.State == impl.TripYes && (was.State != impl.TripAsked || toldOf(behind, impl.WordHeld, i+1) != houses) {
				t.Fatal(d, w, behind)
			}
			if trip.State == impl.TripNo && (was.State != impl.TripAsked || toldOf(behind, impl.WordFull, i+1) == 0) {
				t.Fatal(d, w, behind)
			}
			if i+1 != w.Trip || !slices.Equal(trip.Many, was.Many) {
				t.Fatal(d, w, behind)
			}
		}
	})
	if became[impl.TripYes] < 100 || became[impl.TripNo] < 100 {
		t.Error("hardly any trip was decided:", became)
	}
}

func TestP55EndedByWhatWasForcedAndTold(t *testing.T) {
	became := map[int]int{}
	eachDeskHear(func(d impl.Desk, w impl.Word, behind impl.Desk) {
		for i, trip := range impl.DeskTrips(behind, false) {
			was := allTrips(d)[i]
			if trip.State == was.State || trip.State < impl.TripKept {
				continue
			}
			became[trip.State]++
			from, done := impl.TripYes, impl.WordClosed
			if trip.State == impl.TripLeft {
				from, done = impl.TripNo, impl.WordUndone
			}
			if was.State != from || stateIn(sureTrips(d), i+1) != from {
				t.Fatal(d, w, behind)
			}
			if toldOf(behind, done, i+1) != len(housesByDocument(trip.Many)) {
				t.Fatal(d, w, behind)
			}
		}
	})
	if became[impl.TripKept] < 100 || became[impl.TripLeft] < 100 {
		t.Error("hardly any trip ended:", became)
	}
}

func TestP56ToldOnceAndAtMostOneRecordMore(t *testing.T) {
	eachDeskHear(func(d impl.Desk, w impl.Word, behind impl.Desk) {
		told := d.Told
		if !slices.Contains(told, w) {
			told = append(slices.Clone(told), w)
		}
		if !slices.Equal(behind.Told, told) || !impl.DeskOk(behind) || !behind.Up {
			t.Fatal(d, w, behind)
		}
		n, now := len(d.Log.Recs), behind.Log
		if now.Forced != d.Log.Forced || len(now.Recs) < n || len(now.Recs) > n+1 || !slices.EqualFunc(now.Recs[:n], d.Log.Recs, sameRec) {
			t.Fatal(d, w, behind)
		}
		if len(now.Recs) > n && (now.Recs[n].Trip != w.Trip || now.Recs[n].Kind < impl.RecYes) {
			t.Fatal(d, w, behind)
		}
	})
}

// eachOrder calls f with these words in every order.
func eachOrder(words []impl.Word, f func(words []impl.Word)) {
	if len(words) < 2 {
		f(words)
		return
	}
	for i, first := range words {
		eachOrder(slices.Delete(slices.Clone(words), i, i+1), func(rest []impl.Word) {
			f(append([]impl.Word{first}, rest...))
		})
	}
}

// patterns is what is wanted of one house, of two, and of all, of each of them.
func patterns() [][]int {
	return [][]int{{1, 0, 0}, {0, 2, 0}, {0, 0, 3}, {1, 2, 0}, {3, 0, 1}, {0, 1, 1}, {2, 1, 3}}
}

func TestP60HeldInAnyOrder(t *testing.T) {
	all := []impl.Word{heldBy(1, 1), heldBy(2, 1), heldBy(3, 1)}
	for _, many := range patterns() {
		houses := housesByDocument(many)
		for forced := range 2 {
			eachOrder(all, func(words []impl.Word) {
				d := deskWith(forced, nil, beginRec(1, many...))
				held := 0
				for _, w := range words {
					d = impl.DeskHear(d, w)
					if slices.Contains(houses, w.House) {
						held++
					}
					want := impl.TripAsked
					if held == len(houses) {
						want = impl.TripYes
					}
					if got := impl.DeskTrips(d, false)[0].State; got != want {
						t.Fatal(many, words, w, got)
					}
					if got := stateIn(impl.DeskTrips(d, true), 1); got != forced {
						t.Fatal(many, words, w, got)
					}
				}
			})
		}
	}
}

func TestP60NoBehindAnyFull(t *testing.T) {
	for _, many := range patterns() {
		for full := 1; full <= 3; full++ {
			words := []impl.Word{fullBy(full, 1)}
			for _, house := range []int{1, 2, 3} {
				if house != full {
					words = append(words, heldBy(house, 1))
				}
			}
			eachOrder(words, func(words []impl.Word) {
				d := deskWith(1, nil, beginRec(1, many...))
				for _, w := range words {
					d = impl.DeskHear(d, w)
				}
				want := impl.TripNo
				if many[full-1] == 0 {
					want = impl.TripYes
				}
				if got := impl.DeskTrips(d, false)[0].State; got != want {
					t.Fatal(many, words, got)
				}
				if got := impl.DeskTrips(d, true)[0].State; got != impl.TripAsked {
					t.Fatal(many, words, got)
				}
			})
		}
	}
}

func TestP60OfEveryDesk(t *testing.T) {
	eachDesk(func(d impl.Desk) {
		for i, trip := range allTrips(d) {
			if trip.State != impl.TripAsked || toldOf(d, impl.WordFull, i+1) > 0 {
				continue
			}
			held := d
			for _, house := range housesByDocument(trip.Many) {
				held = impl.DeskHear(held, heldBy(house, i+1))
				full := impl.DeskHear(d, fullBy(house, i+1))
				if got := impl.DeskTrips(full, false)[i].State; got != impl.TripNo {
					t.Fatal(d, house, got)
				}
			}
			if got := impl.DeskTrips(held, false)[i].State; got != impl.TripYes {
				t.Fatal(d, i, got)
			}
		}
	})
}

// Answers in every order, each heard twice, and a force at every place among them: all as the document says.
func TestAnswersInEveryOrder(t *testing.T) {
	for _, many := range [][]int{{0, 2, 0}, {3, 0, 1}, {1, 2, 3}} {
		asked := []impl.Word{heldBy(1, 1), heldBy(2, 1), heldBy(3, 1), fullBy(1, 1), fullBy(3, 1)}
		mustHearInEveryOrder(t, deskWith(0, nil, beginRec(1, many...)), asked)
		decided := []impl.Word{closedBy(1, 1), closedBy(2, 1), closedBy(3, 1), undoneBy(1, 1), undoneBy(2, 1), undoneBy(3, 1)}
		for _, recs := range tripRows(1, many...)[1:3] {
			mustHearInEveryOrder(t, deskWith(1, nil, recs...), decided)
		}
	}
}

func mustHearInEveryOrder(t *testing.T, from impl.Desk, words []impl.Word) {
	t.Helper()
	places := 0
	eachOrder(words, func(words []impl.Word) {
		// Each order is forced at another place, from ahead of all to behind all.
		forceAt := places % (len(words) + 1)
		places++
		d, want := from, from
		for i, w := range words {
			if i == forceAt {
				d, want.Log.Forced = impl.DeskForce(d), len(want.Log.Recs)
			}
			for range 2 {
				d, want = impl.DeskHear(d, w), deskHeardByDocument(want, w)
				if !sameDesk(d, want) {
					t.Fatal(from, words, w, d, want)
				}
			}
		}
	})
}

func TestP61WhatIsNotHeardByADesk(t *testing.T) {
	bad := badWords()
	eachDesk(func(d impl.Desk) {
		trips := len(allTrips(d))
		for trip := 1; trip <= 6; trip++ {
			house := 1 + (trip+len(d.Told))%3
			for _, w := range wordsTo(house, trip) {
				if still := down(d); !sameDesk(impl.DeskHear(still, w), still) {
					t.Fatal(still, w)
				}
				if (w.Kind < impl.WordHeld || trip > trips) && !sameDesk(impl.DeskHear(d, w), d) {
					t.Fatal(d, w)
				}
			}
		}
		w := bad[len(d.Told)*7%len(bad)]
		if !sameDesk(impl.DeskHear(d, w), d) || !sameDesk(impl.DeskHear(down(d), w), down(d)) {
			t.Fatal(d, w)
		}
	})
}

func TestP61WordsThatAreNoAnswers(t *testing.T) {
	for _, d := range someDesks() {
		trips := len(allTrips(d))
		for _, w := range slices.Concat(okWords(), badWords()) {
			hears := d.Up && wordOkByDocument(w) && w.Kind >= 4 && w.Trip <= trips
			if got := impl.DeskHear(d, w); !hears && !sameDesk(got, d) {
				t.Fatal(d, w, got)
			}
		}
		for _, many := range edgeInts {
			for kind := -1; kind <= 8; kind++ {
				w := impl.Word{Kind: kind, House: 1, Trip: 1, Many: many}
				if !wordOkByDocument(w) && !sameDesk(impl.DeskHear(d, w), d) {
					t.Fatal(d, w)
				}
			}
		}
	}
}

func TestP62ToldTwiceIsToldOnce(t *testing.T) {
	eachDeskHear(func(d impl.Desk, w impl.Word, behind impl.Desk) {
		if again := impl.DeskHear(behind, w); !sameDesk(again, behind) {
			t.Fatal(d, w, behind, again)
		}
	})
}

// What is told of one trip decides nothing of another one.
func TestWhatIsToldOfOneTripIsOfNoOther(t *testing.T) {
	d := deskWith(2, nil, beginRec(1, 1, 0, 0), beginRec(2, 1, 0, 0))
	d = impl.DeskHear(impl.DeskHear(d, heldBy(1, 2)), undoneBy(2, 1))
	if got := impl.DeskTrips(d, false); got[0].State != impl.TripAsked || got[1].State != impl.TripYes {
		t.Error(got)
	}
	words := []impl.Word{{Kind: impl.WordHold, House: 1, Trip: 1, Many: 1}}
	if got := impl.DeskWords(d); !slices.Equal(got, words) {
		t.Error(got)
	}
}

// An answer that was told ahead of the force ends the trip as soon as any answer of it is heard again.
func TestAnEndWaitsForTheForce(t *testing.T) {
	for _, row := range []struct {
		decided impl.Rec
		told    impl.Word
		ended   int
	}{{yesRec(1), closedBy(2, 1), impl.TripKept}, {noRec(1), undoneBy(2, 1), impl.TripLeft}} {
		d := impl.DeskHear(deskWith(1, nil, beginRec(1, 0, 1, 0), row.decided), row.told)
		if got := impl.DeskTrips(d, false)[0].State; got == row.ended {
			t.Error(row, d)
		}
		d = impl.DeskForce(d)
		for _, w := range answersOf(1) {
			if got := impl.DeskTrips(impl.DeskHear(d, w), false)[0].State; got != row.ended {
				t.Error(row, w, got)
			}
		}
	}
}
