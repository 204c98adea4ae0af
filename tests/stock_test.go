package tests

import (
	"slices"
	"testing"

	"loop.example/concierge/impl"
)

func TestStatesOfHolds(t *testing.T) {
	got := []int{impl.HoldNone, impl.HoldHeld, impl.HoldClosed, impl.HoldUndone}
	if !slices.Equal(got, []int{0, 1, 2, 3}) {
		t.Error(got)
	}
}

func TestP13StockNew(t *testing.T) {
	for room := 0; room <= 9; room++ {
		s, ok := impl.StockNew(room)
		if !ok || !sameStock(s, impl.Stock{Room: room, Holds: noHolds()}) {
			t.Error(room, s, ok)
		}
		if !impl.StockOk(s) || impl.StockFree(s) != room {
			t.Error(room, impl.StockFree(s))
		}
	}
}

func TestP13StockNewOfRoomsThatAreNone(t *testing.T) {
	for _, room := range append([]int{-9, -2, 9, 11}, edgeInts...) {
		s, ok := impl.StockNew(room)
		if ok != (room >= 0 && room <= 9) || !ok && !isNoStock(s) {
			t.Error(room, s, ok)
		}
	}
}

// mustBeFree holds StockFree and StockOk of one stock against the document.
func mustBeFree(t *testing.T, s impl.Stock) {
	t.Helper()
	want := freeByDocument(s)
	if got := impl.StockFree(s); got != want {
		t.Fatal(s, got, want)
	}
	if impl.StockOk(s) != (want >= 0) {
		t.Fatal(s)
	}
}

func TestP14FreeAndHadAreRoom(t *testing.T) {
	eachStock(func(s impl.Stock) {
		free := impl.StockFree(s)
		if free < 0 || free+hadByDocument(s.Holds) != s.Room || !impl.StockOk(s) {
			t.Fatal(s, free)
		}
	})
}

func TestP14FreeOfEveryRoom(t *testing.T) {
	eachHolds(func(holds []impl.Hold) {
		for _, room := range append([]int{9}, edgeInts...) {
			mustBeFree(t, impl.Stock{Room: room, Holds: holds})
		}
	})
}

func TestP14EveryHoldOfEveryTrip(t *testing.T) {
	for _, state := range edgeInts {
		for _, many := range edgeInts {
			for trip := 1; trip <= 6; trip++ {
				for room := -1; room <= 10; room++ {
					mustBeFree(t, stockWith(room, trip, impl.Hold{Many: many, State: state}))
				}
			}
		}
	}
}

func TestP14FewerAndMoreHoldsThanTrips(t *testing.T) {
	for n := range 20 {
		s := impl.Stock{Room: 9, Holds: make([]impl.Hold, n)}
		mustBeFree(t, s)
		if impl.StockOk(s) != (n == 6) {
			t.Error(n)
		}
	}
}

// Numbers whose sum would come round to one that is ok must not.
func TestP14FarTooMany(t *testing.T) {
	for _, many := range edgeInts {
		for _, state := range []int{1, 2, 3} {
			holds := slices.Repeat([]impl.Hold{{Many: many, State: state}}, 6)
			mustBeFree(t, impl.Stock{Room: 9, Holds: holds})
			holds[5] = impl.Hold{Many: -many, State: state}
			mustBeFree(t, impl.Stock{Room: 9, Holds: holds})
		}
	}
}

func TestP14AllHadAndOneMore(t *testing.T) {
	for room := 0; room <= 9; room++ {
		if s := allHad(room); impl.StockFree(s) != 0 || !impl.StockOk(s) {
			t.Error(room, s)
		}
		if s := tooMany(room); impl.StockFree(s) != -1 || impl.StockOk(s) {
			t.Error(room, s)
		}
	}
}

func TestStocksThatAreNotOk(t *testing.T) {
	recs := recsOfAll()
	for i, s := range badStocks() {
		if impl.StockOk(s) || impl.StockFree(s) != -1 {
			t.Fatal(i, s.Room, impl.StockFree(s))
		}
		for _, r := range recs {
			if impl.StockMay(s, r) {
				t.Fatal(i, r)
			}
			if got, ok := impl.StockDo(s, r); ok || !isNoStock(got) {
				t.Fatal(i, r, got, ok)
			}
		}
	}
}

func TestP23OkWithAnyHoldUndoneOrGone(t *testing.T) {
	eachStock(func(s impl.Stock) {
		for i := range s.Holds {
			other := impl.Stock{Room: s.Room, Holds: slices.Clone(s.Holds)}
			other.Holds[i].State = impl.HoldUndone
			if !impl.StockOk(other) {
				t.Fatal(s, i)
			}
			other.Holds[i] = impl.Hold{}
			if !impl.StockOk(other) {
				t.Fatal(s, i)
			}
		}
	})
}

func TestP23OkOfAnotherRoom(t *testing.T) {
	eachStock(func(s impl.Stock) {
		had := hadByDocument(s.Holds)
		for room := -1; room <= 10; room++ {
			other := impl.Stock{Room: room, Holds: s.Holds}
			if impl.StockOk(other) != (room >= had && room <= 9) {
				t.Fatal(s, room)
			}
		}
	})
}

func TestStocksThatAreAskedStay(t *testing.T) {
	for _, s := range append(badStocks(), allHad(7), stockWith(4, 6, impl.Hold{Many: 2, State: 1})) {
		roomy := roomyStock(s)
		before := stockInts(roomy)
		impl.StockOk(roomy)
		impl.StockFree(roomy)
		if !slices.Equal(stockInts(roomy), before) {
			t.Fatal(s)
		}
	}
}

// What stands behind the end of a list is no part of it.
func TestSpareRoomOfHoldsDoesNotCount(t *testing.T) {
	eachHolds(func(holds []impl.Hold) {
		mustBeFree(t, roomyStock(impl.Stock{Room: 9, Holds: holds}))
	})
	for n := range 9 {
		mustBeFree(t, roomyStock(impl.Stock{Room: 9, Holds: make([]impl.Hold, n)}))
	}
}
