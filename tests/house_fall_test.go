package tests

import (
	"math"
	"slices"
	"testing"

	"loop.example/concierge/impl"
)

func TestP37HouseFall(t *testing.T) {
	eachHouse(func(h impl.House) {
		n := len(h.Log.Recs)
		for _, up := range []bool{true, false} {
			h.Up = up
			for _, keep := range []int{math.MinInt, -1, 0, 1, 2, n - h.Log.Forced, n + 1, 40, math.MaxInt} {
				got := impl.HouseFall(h, keep)
				left := leftOf(n, h.Log.Forced, keep)
				want := impl.House{Id: h.Id, Room: h.Room, Log: impl.Log{Recs: h.Log.Recs[:left], Forced: left}}
				if got.Up || !sameHouse(got, want) || !impl.HouseOk(got) || !sameLog(got.Log, impl.LogFall(h.Log, keep)) {
					t.Fatal(h, keep, got)
				}
			}
		}
	})
}

func TestP37JustWhatWasForced(t *testing.T) {
	recs := []impl.Rec{holdRec(1, 2), holdRec(2, 1), closeRec(1)}
	h := houseWith(1, 3, 1, recs...)
	for keep, left := range map[int]int{math.MinInt: 1, -1: 1, 0: 1, 1: 2, 2: 3, 3: 3, math.MaxInt: 3} {
		got := impl.HouseFall(h, keep)
		if got.Up || len(got.Log.Recs) != left || got.Log.Forced != left {
			t.Error(keep, got)
		}
		if !sameStock(impl.HouseStock(got, false), impl.HouseStock(got, true)) {
			t.Error(keep, got)
		}
	}
	if got := impl.HouseStock(impl.HouseFall(h, 0), false); !sameStock(got, impl.HouseStock(h, true)) || impl.StockFree(got) != 1 {
		t.Error(got)
	}
}

// A house that is down can fall once more; what it had not forced by then is lost too.
func TestP37FallOfAHouseThatIsDown(t *testing.T) {
	h := houseWith(3, 9, 4, houseRecs()...)
	h.Up = false
	for keep := -1; keep <= 9; keep++ {
		once := impl.HouseFall(h, keep)
		left := leftOf(11, 4, keep)
		if once.Up || len(once.Log.Recs) != left || once.Log.Forced != left {
			t.Error(keep, once)
		}
		for _, more := range []int{-1, 0, 5} {
			if !sameHouse(impl.HouseFall(once, more), once) {
				t.Error(keep, more)
			}
		}
	}
}

func TestP38HouseForce(t *testing.T) {
	eachHouse(func(h impl.House) {
		got := impl.HouseForce(h)
		want := impl.House{Id: h.Id, Up: true, Room: h.Room, Log: impl.Log{Recs: h.Log.Recs, Forced: len(h.Log.Recs)}}
		if !sameHouse(got, want) || !sameLog(got.Log, impl.LogForce(h.Log)) || !sameHouse(impl.HouseForce(got), got) {
			t.Fatal(h, got)
		}
		for _, keep := range []int{-1, 0, 3} {
			if !sameLog(impl.HouseFall(got, keep).Log, got.Log) {
				t.Fatal(h, keep)
			}
		}
		h.Up = false
		if down := impl.HouseForce(h); !sameHouse(down, h) {
			t.Fatal(h, down)
		}
	})
}

func TestP37P42HouseRise(t *testing.T) {
	eachHouse(func(h impl.House) {
		for _, up := range []bool{true, false} {
			h.Up = up
			want := h
			want.Up = true
			got := impl.HouseRise(h)
			if !sameHouse(got, want) || !impl.HouseOk(got) || !sameHouse(impl.HouseRise(got), got) {
				t.Fatal(h, got)
			}
			for _, keep := range []int{-1, 0, 1, 2, 40} {
				if !sameHouse(impl.HouseFall(got, keep), impl.HouseFall(h, keep)) {
					t.Fatal(h, keep)
				}
			}
		}
	})
}

// A hold that was not forced is lost by a fall, and may come again.
func TestAHoldThatIsLostComesAgain(t *testing.T) {
	hold := impl.Word{Kind: impl.WordHold, House: 1, Trip: 4, Many: 3}
	h, _ := impl.HouseNew(1, 3)
	h = heard(h, hold).house
	lost := impl.HouseRise(impl.HouseFall(h, 0))
	if fresh, _ := impl.HouseNew(1, 3); !sameHouse(lost, fresh) {
		t.Error(lost)
	}
	if again := heard(lost, hold); !sameHear(again, hear{house: h}) {
		t.Error(again)
	}
	kept := impl.HouseRise(impl.HouseFall(h, 1))
	if again := heard(kept, hold); again.word != (impl.Word{Kind: impl.WordHeld, House: 1, Trip: 4}) || !again.ok {
		t.Error(again)
	}
}

// mustStayHouse fails if a call writes into its house, or answers memory of it, or of another list of the answer.
func mustStayHouse(t *testing.T, h impl.House, call func(h impl.House) impl.House) {
	t.Helper()
	mustLeaveAlone(t, h.Log, func(l impl.Log) impl.Log {
		given := impl.House{Id: h.Id, Up: h.Up, Room: h.Room, Log: l}
		return call(given).Log
	})
}

// memoryHouses is houses, ok and not, up and down, whose answers are looked at for memory that they share.
func memoryHouses() []impl.House {
	var out []impl.House
	for n, recs := 0, houseRecs(); n <= len(recs); n++ {
		for _, forced := range []int{0, n / 2, n} {
			h := houseWith(2, 9, forced, recs[:n]...)
			out = append(out, h)
			h.Up = false
			out = append(out, h)
		}
	}
	return append(out, badHouses()...)
}

func TestHousesAreNewMemory(t *testing.T) {
	for _, h := range memoryHouses() {
		mustStayHouse(t, h, impl.HouseForce)
		mustStayHouse(t, h, impl.HouseRise)
		for _, keep := range []int{math.MinInt, -1, 0, 1, 5, math.MaxInt} {
			mustStayHouse(t, h, func(h impl.House) impl.House { return impl.HouseFall(h, keep) })
		}
		for _, w := range slices.Concat(wordsTo(2, 1), wordsTo(2, 2), wordsTo(2, 6), wordsTo(3, 1)[:1], badWords()[:2]) {
			mustStayHouse(t, h, func(h impl.House) impl.House { return heard(h, w).house })
		}
	}
}

func TestStocksOfHousesAreNewMemory(t *testing.T) {
	for _, h := range memoryHouses() {
		mustStayHouse(t, h, func(h impl.House) impl.House {
			impl.HouseOk(h)
			var stocks []span
			for _, forced := range []bool{false, true, false, true} {
				stocks = append(stocks, stockSpans(impl.HouseStock(h, forced))...)
			}
			mustBeApart(t, stocks, logSpans(h.Log))
			return impl.House{}
		})
	}
}

// What stands behind the end of a list is no part of it.
func TestSpareRoomOfHousesDoesNotCount(t *testing.T) {
	words := wordsToAll(2)
	for _, h := range memoryHouses() {
		roomy := roomyHouse(h)
		if impl.HouseOk(roomy) != impl.HouseOk(h) || !sameHouse(impl.HouseForce(roomy), impl.HouseForce(h)) || !sameHouse(impl.HouseRise(roomy), impl.HouseRise(h)) {
			t.Fatal(h)
		}
		for _, w := range words {
			if !sameHear(heard(roomy, w), heard(h, w)) {
				t.Fatal(h, w)
			}
		}
		for _, keep := range []int{-1, 0, 1, math.MaxInt} {
			if !sameHouse(impl.HouseFall(roomy, keep), impl.HouseFall(h, keep)) {
				t.Fatal(h, keep)
			}
		}
	}
}

// One list in two records of an argument must be two lists in the answer.
func TestListsThatAHouseSharesAreApartInAnswers(t *testing.T) {
	many := []int{2, 9, 9}[:1]
	one := impl.Rec{Kind: impl.RecHold, Trip: 1, Many: many}
	two := impl.Rec{Kind: impl.RecHold, Trip: 2, Many: many}
	h := houseWith(1, 9, 1, one, two)
	given := append(logSpans(h.Log), spanOf(many))
	answers := []impl.House{impl.HouseForce(h), impl.HouseRise(h), impl.HouseFall(h, 1)}
	for _, w := range wordsTo(1, 3) {
		answers = append(answers, heard(h, w).house)
	}
	for _, got := range answers {
		mustBeApart(t, logSpans(got.Log), given)
	}
	if many[:3][1] != 9 || many[:3][2] != 9 {
		t.Error(many[:3])
	}
}

func TestNilAndEmptyListsAreOneValueInHouses(t *testing.T) {
	emptied := impl.Rec{Kind: impl.RecUndo, Trip: 1, Many: []int{}}
	pairs := [][2]impl.House{
		{{Id: 1, Up: true, Room: 3}, {Id: 1, Up: true, Room: 3, Log: impl.Log{Recs: []impl.Rec{}}}},
		{{Id: 3, Room: 0}, {Id: 3, Room: 0, Log: impl.Log{Recs: []impl.Rec{}}}},
		{{Id: 1, Up: true, Log: impl.Log{Forced: 1}}, {Id: 1, Up: true, Log: impl.Log{Recs: []impl.Rec{}, Forced: 1}}},
		{{}, {Log: impl.Log{Recs: []impl.Rec{}}}},
		{houseWith(1, 3, 0, undoRec(1)), houseWith(1, 3, 0, emptied)},
		{houseWith(1, 3, 1, undoRec(1), holdRec(2, 3)), houseWith(1, 3, 1, emptied, holdRec(2, 3))},
	}
	for _, p := range pairs {
		if impl.HouseOk(p[0]) != impl.HouseOk(p[1]) || !sameHouse(impl.HouseForce(p[0]), impl.HouseForce(p[1])) || !sameHouse(impl.HouseRise(p[0]), impl.HouseRise(p[1])) {
			t.Error(p)
		}
		for _, forced := range []bool{false, true} {
			if !sameStock(impl.HouseStock(p[0], forced), impl.HouseStock(p[1], forced)) {
				t.Error(p, forced)
			}
		}
		for _, keep := range edgeInts {
			if !sameHouse(impl.HouseFall(p[0], keep), impl.HouseFall(p[1], keep)) {
				t.Error(p, keep)
			}
		}
		for _, w := range append(wordsToAll(1), wordsToAll(3)...) {
			if !sameHear(heard(p[0], w), heard(p[1], w)) {
				t.Error(p, w)
			}
		}
	}
}
