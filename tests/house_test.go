package tests

import (
	"math"
	"slices"
	"testing"

	"loop.example/concierge/impl"
)

func TestP30HouseNew(t *testing.T) {
	for id := 1; id <= 3; id++ {
		for room := 0; room <= 9; room++ {
			h, ok := impl.HouseNew(id, room)
			if !ok || !sameHouse(h, impl.House{Id: id, Up: true, Room: room}) || !impl.HouseOk(h) {
				t.Error(id, room, h, ok)
			}
			for _, forced := range []bool{false, true} {
				s := impl.HouseStock(h, forced)
				if !sameStock(s, impl.Stock{Room: room, Holds: noHolds()}) || impl.StockFree(s) != room {
					t.Error(id, room, s)
				}
			}
		}
	}
}

func TestP30HouseNewOfWhatIsNone(t *testing.T) {
	numbers := append([]int{-9, -3, -2, 9, 11}, edgeInts...)
	for _, id := range numbers {
		for _, room := range numbers {
			h, ok := impl.HouseNew(id, room)
			want := id >= 1 && id <= 3 && room >= 0 && room <= 9
			if ok != want || impl.HouseOk(h) != want || !want && !isNoHouse(h) {
				t.Error(id, room, h, ok)
			}
		}
	}
}

func TestHouseOk(t *testing.T) {
	eachHouse(func(h impl.House) {
		for _, up := range []bool{false, true} {
			h.Up = up
			if !impl.HouseOk(h) {
				t.Fatal(h)
			}
		}
	})
}

func TestHouseOkOfEveryIdAndRoom(t *testing.T) {
	numbers := append([]int{9}, edgeInts...)
	for _, id := range numbers {
		for _, room := range numbers {
			for n, recs := 0, houseRecs(); n <= len(recs); n++ {
				for _, forced := range []int{-1, 0, n, n + 1} {
					h := houseWith(id, room, forced, recs[:n]...)
					if impl.HouseOk(h) != houseOkByDocument(h) {
						t.Fatal(h)
					}
				}
			}
		}
	}
}

func TestHousesThatAreNotOk(t *testing.T) {
	for i, h := range badHouses() {
		if impl.HouseOk(h) {
			t.Fatal(i, h)
		}
		if !isNoStock(impl.HouseStock(h, false)) || !isNoStock(impl.HouseStock(h, true)) {
			t.Fatal(i, h)
		}
		if !isNoHouse(impl.HouseForce(h)) || !isNoHouse(impl.HouseRise(h)) {
			t.Fatal(i, h)
		}
		for _, keep := range []int{math.MinInt, -1, 0, 1, 40, math.MaxInt} {
			if !isNoHouse(impl.HouseFall(h, keep)) {
				t.Fatal(i, h, keep)
			}
		}
		for _, w := range slices.Concat(wordsTo(h.Id, 1), wordsTo(h.Id, 6), wordsTo(2, 2), badWords()[:3]) {
			if got := heard(h, w); !stays(got, impl.House{}) {
				t.Fatal(i, h, w, got)
			}
		}
	}
}

// A log is ok by itself, and full, and still makes no house: of each trip two records come at most.
func TestLogsThatAreOkAndMakeNoStock(t *testing.T) {
	for i, recs := range noStocks() {
		for room := range 10 {
			h := houseWith(1, room, 0, recs...)
			if !impl.LogOk(h.Log) || impl.HouseOk(h) || !isNoStock(impl.HouseStock(h, true)) {
				t.Error(i, room)
			}
		}
	}
}

func TestP31HouseStock(t *testing.T) {
	differ := 0
	eachHouse(func(h impl.House) {
		all, _ := stockOfByDocument(h.Room, h.Log.Recs)
		sure, _ := stockOfByDocument(h.Room, h.Log.Recs[:h.Log.Forced])
		for _, up := range []bool{false, true} {
			h.Up = up
			if !sameStock(impl.HouseStock(h, false), all) || !sameStock(impl.HouseStock(h, true), sure) {
				t.Fatal(h, impl.HouseStock(h, false), impl.HouseStock(h, true))
			}
		}
		if !sameStock(all, sure) {
			differ++
		}
		forced := impl.HouseForce(h)
		if !sameStock(impl.HouseStock(forced, false), all) || !sameStock(impl.HouseStock(forced, true), all) {
			t.Fatal(h, forced)
		}
	})
	if differ < 1000 {
		t.Error("hardly any house has something that is not forced:", differ)
	}
}

func TestP31WhatIsNotForcedDoesNotCount(t *testing.T) {
	recs := []impl.Rec{holdRec(1, 2), holdRec(2, 1), closeRec(1), undoRec(2), undoRec(3)}
	want := []impl.Stock{
		{Room: 4, Holds: []impl.Hold{{}, {}, {}, {}, {}, {}}},
		{Room: 4, Holds: []impl.Hold{{Many: 2, State: 1}, {}, {}, {}, {}, {}}},
		{Room: 4, Holds: []impl.Hold{{Many: 2, State: 1}, {Many: 1, State: 1}, {}, {}, {}, {}}},
		{Room: 4, Holds: []impl.Hold{{Many: 2, State: 2}, {Many: 1, State: 1}, {}, {}, {}, {}}},
		{Room: 4, Holds: []impl.Hold{{Many: 2, State: 2}, {Many: 1, State: 3}, {}, {}, {}, {}}},
		{Room: 4, Holds: []impl.Hold{{Many: 2, State: 2}, {Many: 1, State: 3}, {State: 3}, {}, {}, {}}},
	}
	for forced, sure := range want {
		h := houseWith(2, 4, forced, recs...)
		if got := impl.HouseStock(h, true); !sameStock(got, sure) {
			t.Error(forced, got)
		}
		if got := impl.HouseStock(h, false); !sameStock(got, want[5]) {
			t.Error(forced, got)
		}
	}
}

func TestP43EachBeginningIsOk(t *testing.T) {
	eachHouse(func(h impl.House) {
		for n := range len(h.Log.Recs) + 1 {
			first := h.Log.Recs[:n]
			s, ok := impl.StockOf(h.Room, first)
			if !ok || !impl.StockOk(s) {
				t.Fatal(h, n)
			}
			for _, forced := range []int{0, n / 2, n} {
				left := impl.House{Id: h.Id, Up: n%2 == 0, Room: h.Room, Log: impl.Log{Recs: first, Forced: forced}}
				if !impl.HouseOk(left) || !sameStock(impl.HouseStock(left, false), s) {
					t.Fatal(h, n, forced)
				}
			}
		}
	})
}
