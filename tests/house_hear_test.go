package tests

import (
	"math/rand/v2"
	"slices"
	"testing"

	"loop.example/concierge/impl"
)

// hearRows is what trip 5 wrote down, how many of that are forced, and what is heard of hold, close and undo: "writes", the answer's word, or nothing.
var hearRows = []struct {
	name   string
	recs   []impl.Rec
	forced int
	heard  [3]string
}{
	{"nothing", nil, 0, [3]string{"writes", "", "writes"}},
	{"held", []impl.Rec{holdRec(5, 2)}, 1, [3]string{"held", "writes", "writes"}},
	{"held, not forced", []impl.Rec{holdRec(5, 2)}, 0, [3]string{"", "writes", "writes"}},
	{"closed", []impl.Rec{holdRec(5, 2), closeRec(5)}, 2, [3]string{"held", "closed", ""}},
	{"closed, just the hold forced", []impl.Rec{holdRec(5, 2), closeRec(5)}, 1, [3]string{"held", "", ""}},
	{"closed, not forced", []impl.Rec{holdRec(5, 2), closeRec(5)}, 0, [3]string{"", "", ""}},
	{"undone", []impl.Rec{holdRec(5, 2), undoRec(5)}, 2, [3]string{"full", "", "undone"}},
	{"undone, just the hold forced", []impl.Rec{holdRec(5, 2), undoRec(5)}, 1, [3]string{"held", "", ""}},
	{"undone, not forced", []impl.Rec{holdRec(5, 2), undoRec(5)}, 0, [3]string{"", "", ""}},
	{"undone at once", []impl.Rec{undoRec(5)}, 1, [3]string{"full", "", "undone"}},
	{"undone at once, not forced", []impl.Rec{undoRec(5)}, 0, [3]string{"", "", ""}},
}

func TestHouseHearOfEachWordAtEachState(t *testing.T) {
	for _, row := range hearRows {
		for _, room := range []int{4, 9} {
			h := houseWith(3, room, row.forced, row.recs...)
			for _, w := range wordsTo(3, 5) {
				got := heard(h, w)
				want := ""
				if w.Kind <= 3 {
					want = row.heard[w.Kind-1]
				}
				mustHear(t, row.name, h, w, got, want)
			}
		}
	}
}

// mustHear holds what a house answers against a word of hearRows.
func mustHear(t *testing.T, name string, h impl.House, w impl.Word, got hear, want string) {
	t.Helper()
	switch want {
	case "":
		if !stays(got, h) {
			t.Error(name, w, got)
		}
	case "writes":
		r := impl.Rec{Kind: w.Kind, Trip: 5}
		if w.Kind == impl.WordHold {
			r.Many = []int{w.Many}
		}
		h.Log.Recs = append(slices.Clone(h.Log.Recs), r)
		if !stays(got, h) {
			t.Error(name, w, got)
		}
	default:
		if !got.ok || impl.WordText(got.word) != want+" 3 5" || !sameHouse(got.house, h) {
			t.Error(name, w, got)
		}
	}
}

func TestHouseHearOfEveryHouse(t *testing.T) {
	eachHear(func(h impl.House, w impl.Word, behind hear) {
		if !sameHear(behind, hearByDocument(h, w)) {
			t.Fatal(h, w, behind)
		}
	})
}

// Long lives of houses, whose words come in any order, with forces, falls and rises between.
func TestHousesOnLongWalks(t *testing.T) {
	dice := rand.New(rand.NewPCG(32, 1))
	for walk := range 800 {
		h, _ := impl.HouseNew(1+walk%3, walk%10)
		words := slices.Concat(wordsToAll(h.Id), wordsToAll(h.Id), wordsToAll(1+h.Id%3), badWords())
		for range 80 {
			w, keep := words[dice.IntN(len(words))], dice.IntN(6)-1
			mustGo(t, h, w, keep)
			switch dice.IntN(12) {
			case 0:
				h = impl.HouseForce(h)
			case 1:
				h = impl.HouseFall(h, keep)
			case 2, 3:
				h = impl.HouseRise(h)
			default:
				h = heard(h, w).house
			}
		}
	}
}

func TestP32AtMostOneRecordMore(t *testing.T) {
	wrote := 0
	eachHear(func(h impl.House, w impl.Word, behind hear) {
		n, now := len(h.Log.Recs), behind.house.Log
		if !impl.HouseOk(behind.house) || now.Forced != h.Log.Forced || len(now.Recs) > n+1 {
			t.Fatal(h, w, behind)
		}
		if len(now.Recs) < n || !slices.EqualFunc(now.Recs[:n], h.Log.Recs, sameRec) {
			t.Fatal(h, w, behind)
		}
		if len(now.Recs) > n {
			wrote++
			if now.Recs[n].Trip != w.Trip || now.Recs[n].Kind != w.Kind || behind.ok {
				t.Fatal(h, w, behind)
			}
		}
		s := impl.HouseStock(behind.house, false)
		if impl.StockFree(s) < 0 || hadByDocument(s.Holds) > h.Room {
			t.Fatal(h, w, behind)
		}
	})
	if wrote < 1000 {
		t.Error("hardly any word was written down:", wrote)
	}
}

func TestP32HoldOfAsManyAsAreFreeAndOneMore(t *testing.T) {
	for free := range 4 {
		for had := 0; had+free <= 9; had++ {
			h := houseWith(2, had+free, had%2, holdsOf(had)...)
			for many := 1; many <= 3; many++ {
				got := heard(h, impl.Word{Kind: impl.WordHold, House: 2, Trip: 6, Many: many})
				if many > free {
					if got.word != (impl.Word{Kind: impl.WordFull, House: 2, Trip: 6}) || !got.ok || !sameHouse(got.house, h) {
						t.Error(h, many, got)
					}
					continue
				}
				behind := impl.HouseStock(got.house, false)
				if got.ok || len(got.house.Log.Recs) != len(h.Log.Recs)+1 || impl.StockFree(behind) != free-many {
					t.Error(h, many, got)
				}
			}
		}
	}
}

// holdsOf is holds of the first trips, of so many together; the last trip has none.
func holdsOf(had int) []impl.Rec {
	var recs []impl.Rec
	for trip := 1; had > 0; trip++ {
		recs = append(recs, holdRec(trip, min(had, 3)))
		had -= min(had, 3)
	}
	return recs
}

func TestP33WhatIsAnsweredIsSure(t *testing.T) {
	says := map[int][]int{impl.WordHeld: {1, 2}, impl.WordClosed: {2}, impl.WordUndone: {3}}
	told := map[int]int{}
	eachHear(func(h impl.House, w impl.Word, behind hear) {
		states := says[behind.word.Kind]
		if states == nil {
			return
		}
		told[behind.word.Kind]++
		if !slices.Contains(states, impl.HouseStock(h, true).Holds[w.Trip-1].State) {
			t.Fatal(h, w, behind)
		}
		for _, keep := range []int{-1, 0, 1, 40} {
			left := impl.HouseFall(behind.house, keep)
			if keep <= 0 && !slices.Contains(states, impl.HouseStock(left, false).Holds[w.Trip-1].State) {
				t.Fatal(h, w, keep, left)
			}
			if len(left.Log.Recs) < h.Log.Forced {
				t.Fatal(h, w, keep, left)
			}
		}
	})
	if told[impl.WordHeld] < 100 || told[impl.WordClosed] < 100 || told[impl.WordUndone] < 100 {
		t.Error("hardly any answer:", told)
	}
}

func TestP34ForcedAndToldAgainItIsAnswered(t *testing.T) {
	answers := map[int]int{impl.WordHold: impl.WordHeld, impl.WordClose: impl.WordClosed, impl.WordUndo: impl.WordUndone}
	eachHear(func(h impl.House, w impl.Word, behind hear) {
		if len(behind.house.Log.Recs) == len(h.Log.Recs) {
			return
		}
		forced := impl.HouseForce(behind.house)
		again := heard(forced, w)
		want := impl.Word{Kind: answers[w.Kind], House: h.Id, Trip: w.Trip}
		if !sameHear(again, hear{forced, want, true}) {
			t.Fatal(h, w, again)
		}
	})
}

func TestP35ToldTwiceIsWrittenDownOnce(t *testing.T) {
	eachHear(func(h impl.House, w impl.Word, behind hear) {
		again := heard(behind.house, w)
		if !sameHouse(again.house, behind.house) {
			t.Fatal(h, w, again)
		}
		// What was just written down is not forced, so the same word is not answered by it.
		if len(behind.house.Log.Recs) > len(h.Log.Recs) && again.ok {
			t.Fatal(h, w, again)
		}
		if len(behind.house.Log.Recs) == len(h.Log.Recs) && !sameHear(again, behind) {
			t.Fatal(h, w, again)
		}
	})
}

func TestP36WhatIsNotHeard(t *testing.T) {
	bad := badWords()
	eachHouse(func(h impl.House) {
		down := h
		down.Up = false
		for _, w := range wordsTo(h.Id, 2) {
			if !stays(heard(down, w), down) {
				t.Fatal(down, w)
			}
			for _, other := range []int{1 + h.Id%3, 1 + (h.Id+1)%3} {
				w.House = other
				if !stays(heard(h, w), h) {
					t.Fatal(h, w)
				}
			}
		}
		for _, kind := range []int{4, 5, 6, 7} {
			for trip := 1; trip <= 6; trip++ {
				if w := (impl.Word{Kind: kind, House: h.Id, Trip: trip}); !stays(heard(h, w), h) {
					t.Fatal(h, w)
				}
			}
		}
		w := bad[len(h.Log.Recs)*7%len(bad)]
		if !stays(heard(h, w), h) || !stays(heard(down, w), down) {
			t.Fatal(h, w)
		}
	})
}

func TestP36WordsThatAreNotInForm(t *testing.T) {
	for id := 1; id <= 3; id++ {
		for _, h := range []impl.House{houseWith(id, 9, 0), houseWith(id, 9, 6, houseRecs()...), houseWith(id, 0, 0)} {
			for _, w := range badWords() {
				if !stays(heard(h, w), h) {
					t.Fatal(h, w)
				}
			}
			for _, many := range edgeInts {
				for kind := 0; kind <= 8; kind++ {
					w := impl.Word{Kind: kind, House: id, Trip: 6, Many: many}
					if !wordOkByDocument(w) && !stays(heard(h, w), h) {
						t.Fatal(h, w)
					}
				}
			}
		}
	}
}

func TestP36EachWordAtAHouseThatIsDown(t *testing.T) {
	for _, row := range hearRows {
		h := houseWith(3, 4, row.forced, row.recs...)
		h.Up = false
		for _, w := range wordsToAll(3) {
			if !stays(heard(h, w), h) {
				t.Error(row.name, w)
			}
		}
	}
}

func TestP39MoreThanIsFreeIsFull(t *testing.T) {
	full := 0
	eachHear(func(h impl.House, w impl.Word, behind hear) {
		all := impl.HouseStock(h, false)
		none := all.Holds[w.Trip-1].State == impl.HoldNone && w.Many > impl.StockFree(all)
		undone := impl.HouseStock(h, true).Holds[w.Trip-1].State == impl.HoldUndone
		is := w.Kind == impl.WordHold && (none || undone)
		if is != (behind.word.Kind == impl.WordFull) {
			t.Fatal(h, w, behind)
		}
		if is {
			full++
			if !sameHear(behind, hear{h, impl.Word{Kind: 5, House: h.Id, Trip: w.Trip}, true}) {
				t.Fatal(h, w, behind)
			}
		}
	})
	if full < 1000 {
		t.Error("hardly any house was full:", full)
	}
}

// What others hold counts, forced or not, for as long as it is written down.
func TestP39FullByWhatIsNotForced(t *testing.T) {
	hold := impl.Word{Kind: impl.WordHold, House: 1, Trip: 2, Many: 1}
	for forced := range 2 {
		h := houseWith(1, 3, forced, holdRec(1, 3))
		if got := heard(h, hold); !sameHear(got, hear{h, impl.Word{Kind: 5, House: 1, Trip: 2}, true}) {
			t.Error(forced, got)
		}
		risen := impl.HouseRise(impl.HouseFall(h, 0))
		if got := heard(risen, hold); got.ok != (forced == 1) || len(got.house.Log.Recs) != 1 {
			t.Error(forced, got)
		}
	}
}

func TestP40BehindAnUndo(t *testing.T) {
	tried := 0
	eachHear(func(h impl.House, w impl.Word, behind hear) {
		if w.Kind != impl.WordUndo || stateByDocument(h, w.Trip, false) == impl.HoldClosed {
			return
		}
		tried++
		forced := impl.HouseForce(behind.house)
		if impl.HouseStock(behind.house, false).Holds[w.Trip-1].State != impl.HoldUndone {
			t.Fatal(h, w, behind)
		}
		if impl.HouseStock(forced, true).Holds[w.Trip-1].State != impl.HoldUndone {
			t.Fatal(h, w, forced)
		}
		for _, late := range wordsTo(h.Id, w.Trip)[:4] {
			for _, house := range []impl.House{behind.house, forced} {
				if got := heard(house, late); !sameHouse(got.house, house) {
					t.Fatal(h, w, late, got)
				}
			}
		}
	})
	if tried < 1000 {
		t.Error("hardly any undo was tried:", tried)
	}
}

func TestP40UndoOfATripThatHasNothing(t *testing.T) {
	for trip := 1; trip <= 6; trip++ {
		words := wordsTo(2, trip)
		hold, closing, undo := words[0], words[3], words[4]
		h, _ := impl.HouseNew(2, 3)
		h = heard(h, undo).house
		if !sameHouse(h, houseWith(2, 3, 0, undoRec(trip))) {
			t.Fatal(trip, h)
		}
		for _, w := range []impl.Word{hold, closing, undo} {
			if got := heard(h, w); !stays(got, h) {
				t.Error(trip, w, got)
			}
		}
		h = impl.HouseForce(h)
		full := impl.Word{Kind: impl.WordFull, House: 2, Trip: trip}
		undone := impl.Word{Kind: impl.WordUndone, House: 2, Trip: trip}
		if !sameHear(heard(h, hold), hear{h, full, true}) || !stays(heard(h, closing), h) || !sameHear(heard(h, undo), hear{h, undone, true}) {
			t.Error(trip, heard(h, hold), heard(h, closing), heard(h, undo))
		}
	}
}

func TestP41AllOtherTripsHaveWhatTheyHad(t *testing.T) {
	eachHear(func(h impl.House, w impl.Word, behind hear) {
		for _, forced := range []bool{false, true} {
			before, now := impl.HouseStock(h, forced), impl.HouseStock(behind.house, forced)
			for i := range before.Holds {
				if (forced || i != w.Trip-1) && now.Holds[i] != before.Holds[i] {
					t.Fatal(h, w, behind)
				}
			}
		}
		if behind.house.Id != h.Id || !behind.house.Up || behind.house.Room != h.Room {
			t.Fatal(h, w, behind)
		}
	})
}
