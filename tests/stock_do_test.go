package tests

import (
	"math"
	"math/rand/v2"
	"slices"
	"testing"

	"loop.example/concierge/impl"
)

// mustStep holds StockMay and StockDo of an ok stock and an ok record against the document.
func mustStep(t *testing.T, s impl.Stock, r impl.Rec) {
	t.Helper()
	want, may := impl.Stock{}, mayByDocument(s, r)
	if may {
		want = doneByDocument(s, r)
	}
	if impl.StockMay(s, r) != may {
		t.Fatal(s, r, !may)
	}
	if got, ok := impl.StockDo(s, r); ok != may || !sameStock(got, want) {
		t.Fatal(s, r, got, ok)
	}
}

func TestP17EveryRecordAtEveryStock(t *testing.T) {
	recs := recsOfAll()
	eachStock(func(s impl.Stock) {
		for _, r := range recs {
			mustStep(t, s, r)
		}
	})
}

// Beginnings of all that can be wanted too, at every state of their trip.
func TestP17EveryOkRecordAtEveryState(t *testing.T) {
	for _, r := range okRecs() {
		for _, h := range okHolds() {
			for room := hadByDocument([]impl.Hold{h}); room <= 9; room++ {
				mustStep(t, stockWith(room, r.Trip, h), r)
				mustStep(t, stockWith(room, r.Trip%6+1, h), r)
			}
		}
	}
}

func TestP17HoldOfAsManyAsAreFreeAndOneMore(t *testing.T) {
	for free := range 4 {
		for had := 0; had+free <= 9; had++ {
			s := allHad(had)
			s.Room += free
			for many := 1; many <= 3; many++ {
				r := impl.Rec{Kind: impl.RecHold, Trip: 6, Many: []int{many}}
				got, ok := impl.StockDo(s, r)
				if impl.StockMay(s, r) != (many <= free) || ok != (many <= free) {
					t.Error(s, r, ok)
				}
				if ok && impl.StockFree(got) != free-many {
					t.Error(s, r, got)
				}
			}
		}
	}
}

func TestP17RecordsThatAreNotOk(t *testing.T) {
	bad := badRecs()
	for trip := 1; trip <= 6; trip++ {
		for _, r := range recsOf(trip) {
			for _, other := range []int{math.MinInt, -1, 0, 7, 8, math.MaxInt} {
				bad = append(bad, impl.Rec{Kind: r.Kind, Trip: other, Many: r.Many})
			}
			bad = append(bad, impl.Rec{Kind: r.Kind, Trip: trip, Many: append(slices.Clone(r.Many), 1)})
		}
		for _, n := range []int{math.MinInt, -1, 0, 4, math.MaxInt} {
			bad = append(bad, impl.Rec{Kind: impl.RecHold, Trip: trip, Many: []int{n}})
		}
		bad = append(bad, impl.Rec{Kind: impl.RecHold, Trip: trip}, impl.Rec{Kind: 0, Trip: trip}, impl.Rec{Kind: 8, Trip: trip})
	}
	stocks := []impl.Stock{{Room: 9, Holds: noHolds()}, allHad(9)}
	for _, h := range okHolds() {
		stocks = append(stocks, impl.Stock{Room: 9, Holds: append(slices.Repeat([]impl.Hold{{State: 3}}, 5), h)})
		stocks = append(stocks, stockWith(9, 1, h))
	}
	for _, s := range stocks {
		for i, r := range bad {
			if impl.StockMay(s, r) {
				t.Fatal(s, i, r.Kind, r.Trip)
			}
			if got, ok := impl.StockDo(s, r); ok || !isNoStock(got) {
				t.Fatal(s, i, got, ok)
			}
		}
	}
}

func TestP15NeverTooMany(t *testing.T) {
	eachStep(t, func(s impl.Stock, r impl.Rec, behind impl.Stock) {
		if !impl.StockOk(behind) || hadByDocument(behind.Holds) > behind.Room {
			t.Fatal(s, r, behind)
		}
	})
}

// Long walks, of which each step that may come is taken, reach all that houses do.
func TestP15NeverTooManyOnLongWalks(t *testing.T) {
	recs := recsOfAll()
	dice := rand.New(rand.NewPCG(15, 1))
	for walk := range 600 {
		s, _ := impl.StockNew(walk % 10)
		for range 60 {
			r := recs[dice.IntN(len(recs))]
			mustStep(t, s, r)
			if impl.StockMay(s, r) {
				s = mustDo(t, s, r)
			}
			if s.Room != walk%10 || hadByDocument(s.Holds) > s.Room {
				t.Fatal(s, r)
			}
		}
	}
}

func TestP16JustTheTripsHoldIsAnotherOne(t *testing.T) {
	states := map[int]int{impl.RecHold: impl.HoldHeld, impl.RecClose: impl.HoldClosed, impl.RecUndo: impl.HoldUndone}
	eachStep(t, func(s impl.Stock, r impl.Rec, behind impl.Stock) {
		for i := range s.Holds {
			if (behind.Holds[i] != s.Holds[i]) != (i == r.Trip-1) {
				t.Fatal(s, r, behind)
			}
		}
		if behind.Room != s.Room || behind.Holds[r.Trip-1].State != states[r.Kind] {
			t.Fatal(s, r, behind)
		}
	})
}

func TestP16WhatIsFreeBehindARecord(t *testing.T) {
	eachStep(t, func(s impl.Stock, r impl.Rec, behind impl.Stock) {
		more := 0
		if r.Kind == impl.RecHold {
			more = -r.Many[0]
		}
		if r.Kind == impl.RecUndo && s.Holds[r.Trip-1].State == impl.HoldHeld {
			more = s.Holds[r.Trip-1].Many
		}
		if impl.StockFree(behind) != impl.StockFree(s)+more {
			t.Fatal(s, r, behind)
		}
	})
}

func TestP18TheSameRecordMayNotComeAgain(t *testing.T) {
	eachStep(t, func(s impl.Stock, r impl.Rec, behind impl.Stock) {
		if impl.StockMay(behind, r) {
			t.Fatal(s, r)
		}
		for _, next := range recsOf(r.Trip) {
			if r.Kind == impl.RecUndo && impl.StockMay(behind, next) {
				t.Fatal(s, r, next)
			}
		}
	})
}

func TestP18UndoOfATripThatHasNothing(t *testing.T) {
	for trip := 1; trip <= 6; trip++ {
		for room := 0; room <= 9; room++ {
			s, _ := impl.StockNew(room)
			behind, ok := impl.StockDo(s, impl.Rec{Kind: impl.RecUndo, Trip: trip})
			if !ok || !sameStock(behind, stockWith(room, trip, impl.Hold{State: 3})) || impl.StockFree(behind) != room {
				t.Fatal(trip, room, behind, ok)
			}
			for _, late := range recsOf(trip) {
				if got, ok := impl.StockDo(behind, late); ok || !isNoStock(got) || impl.StockMay(behind, late) {
					t.Fatal(trip, room, late, got)
				}
			}
		}
	}
}

func TestP20OneMoreRoom(t *testing.T) {
	eachStep(t, func(s impl.Stock, r impl.Rec, behind impl.Stock) {
		if s.Room == 9 {
			return
		}
		more := impl.Stock{Room: s.Room + 1, Holds: s.Holds}
		got, ok := impl.StockDo(more, r)
		if !impl.StockMay(more, r) || !ok || impl.StockFree(got) != impl.StockFree(behind)+1 || !slices.Equal(got.Holds, behind.Holds) {
			t.Fatal(s, r, got)
		}
	})
}

func TestP21HoldAndThenUndo(t *testing.T) {
	eachStep(t, func(s impl.Stock, r impl.Rec, behind impl.Stock) {
		if r.Kind != impl.RecHold {
			return
		}
		undone := mustDo(t, behind, impl.Rec{Kind: impl.RecUndo, Trip: r.Trip})
		if impl.StockFree(undone) != impl.StockFree(s) || undone.Holds[r.Trip-1] != (impl.Hold{Many: r.Many[0], State: 3}) {
			t.Fatal(s, r, undone)
		}
		for _, next := range recsOf(r.Trip) {
			if impl.StockMay(undone, next) {
				t.Fatal(s, r, next)
			}
		}
	})
}

func TestP22TwoTripsInAnyOrder(t *testing.T) {
	dice := rand.New(rand.NewPCG(22, 1))
	recs := recsOfAll()
	both := 0
	eachStep(t, func(s impl.Stock, a impl.Rec, behindA impl.Stock) {
		for range 3 {
			b := recs[dice.IntN(len(recs))]
			behindB, ok := impl.StockDo(s, b)
			if a.Trip == b.Trip || !ok || !impl.StockMay(behindA, b) || !impl.StockMay(behindB, a) {
				continue
			}
			both++
			if !sameStock(mustDo(t, behindA, b), mustDo(t, behindB, a)) {
				t.Fatal(s, a, b)
			}
		}
	})
	if both < 1000 {
		t.Error("hardly any pair was tried:", both)
	}
}

func TestP24BehindAClose(t *testing.T) {
	eachStep(t, func(s impl.Stock, r impl.Rec, behind impl.Stock) {
		if r.Kind != impl.RecClose {
			return
		}
		if behind.Holds[r.Trip-1] != (impl.Hold{Many: s.Holds[r.Trip-1].Many, State: 2}) {
			t.Fatal(s, r, behind)
		}
		for _, next := range recsOf(r.Trip) {
			if got, ok := impl.StockDo(behind, next); ok || !isNoStock(got) || impl.StockMay(behind, next) {
				t.Fatal(s, r, next)
			}
		}
	})
}
