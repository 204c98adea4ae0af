package tests

import (
	"math"
	"math/rand/v2"
	"slices"
	"testing"

	"loop.example/concierge/impl"
)

// stockOfByDocument goes from a new stock on, record by record.
func stockOfByDocument(room int, recs []impl.Rec) (impl.Stock, bool) {
	if room < 0 || room > 9 {
		return impl.Stock{}, false
	}
	s := impl.Stock{Room: room, Holds: noHolds()}
	for _, r := range recs {
		if !recOkByDocument(r) || !mayByDocument(s, r) {
			return impl.Stock{}, false
		}
		s = doneByDocument(s, r)
	}
	return s, true
}

func mustStockOf(t *testing.T, room int, recs []impl.Rec) bool {
	t.Helper()
	want, may := stockOfByDocument(room, recs)
	got, ok := impl.StockOf(room, recs)
	if ok != may || !sameStock(got, want) {
		t.Fatal(room, recs, got, ok, want)
	}
	return ok
}

// houseRecs is a hold of each trip, its close or its undo, and an undo of the last, which had nothing.
func houseRecs() []impl.Rec {
	return []impl.Rec{
		{Kind: impl.RecHold, Trip: 1, Many: []int{2}},
		{Kind: impl.RecHold, Trip: 4, Many: []int{3}},
		{Kind: impl.RecClose, Trip: 4},
		{Kind: impl.RecUndo, Trip: 1},
		{Kind: impl.RecHold, Trip: 2, Many: []int{1}},
		{Kind: impl.RecHold, Trip: 5, Many: []int{2}},
		{Kind: impl.RecUndo, Trip: 5},
		{Kind: impl.RecHold, Trip: 3, Many: []int{3}},
		{Kind: impl.RecClose, Trip: 3},
		{Kind: impl.RecClose, Trip: 2},
		{Kind: impl.RecUndo, Trip: 6},
	}
}

func TestP19StockOfNoRecord(t *testing.T) {
	for _, room := range append([]int{9, 11}, edgeInts...) {
		want, is := impl.StockNew(room)
		for _, none := range [][]impl.Rec{nil, {}, houseRecs()[:0]} {
			got, ok := impl.StockOf(room, none)
			if ok != is || !sameStock(got, want) {
				t.Error(room, got, ok)
			}
		}
	}
}

func TestP19StockOfRecords(t *testing.T) {
	recs := houseRecs()
	got, ok := impl.StockOf(7, recs)
	want := []impl.Hold{{Many: 2, State: 3}, {Many: 1, State: 2}, {Many: 3, State: 2}, {Many: 3, State: 2}, {Many: 2, State: 3}, {Many: 0, State: 3}}
	if !ok || !sameStock(got, impl.Stock{Room: 7, Holds: want}) {
		t.Fatal(got, ok)
	}
	for _, room := range append([]int{9, 11}, edgeInts...) {
		for n := range len(recs) + 1 {
			mustStockOf(t, room, recs[:n])
		}
	}
}

func TestP19OneMayNotCome(t *testing.T) {
	never := slices.Concat(badRecs(), []impl.Rec{
		{Kind: impl.RecBegin, Trip: 1, Many: []int{1, 0, 0}},
		{Kind: impl.RecYes, Trip: 1}, {Kind: impl.RecNo, Trip: 1}, {Kind: impl.RecEnd, Trip: 1},
	})
	recs := houseRecs()
	for at := range len(recs) + 1 {
		for i, r := range never {
			if got, ok := impl.StockOf(9, slices.Insert(slices.Clone(recs), at, r)); ok || !isNoStock(got) {
				t.Error(at, i, got, ok)
			}
		}
		for _, r := range recsOfAll() {
			mustStockOf(t, 9, slices.Insert(slices.Clone(recs), at, r))
			mustStockOf(t, 7, slices.Insert(slices.Clone(recs), at, r))
		}
		if at < len(recs) {
			twice := slices.Insert(slices.Clone(recs), at, recs[at])
			if got, ok := impl.StockOf(9, twice); ok || !isNoStock(got) {
				t.Error(at, got, ok)
			}
		}
	}
}

func TestP19StockOfIsStockDoOfEach(t *testing.T) {
	dice := rand.New(rand.NewPCG(19, 1))
	done := 0
	for walk := range 4000 {
		room := walk % 10
		s, _ := impl.StockNew(room)
		var recs []impl.Rec
		for range 30 {
			r := recsOf(dice.IntN(6) + 1)[dice.IntN(5)]
			next, ok := impl.StockDo(s, r)
			if !ok {
				mustStockOf(t, room, append(slices.Clone(recs), r))
				continue
			}
			s, recs = next, append(recs, r)
			if got, ok := impl.StockOf(room, recs); !ok || !sameStock(got, s) {
				t.Fatal(room, recs, got, ok)
			}
			done++
		}
	}
	if done < 10000 {
		t.Error("hardly any record came:", done)
	}
}

func TestP19FarMoreRecordsThanMayCome(t *testing.T) {
	recs := slices.Repeat(houseRecs(), 10000)
	if got, ok := impl.StockOf(9, recs); ok || !isNoStock(got) {
		t.Error(got, ok)
	}
	if got, ok := impl.StockOf(math.MaxInt, recs); ok || !isNoStock(got) {
		t.Error(got, ok)
	}
}

// mustNotTouch fails if a call writes into its records, or answers memory of them.
func mustNotTouch(t *testing.T, recs []impl.Rec, call func(recs []impl.Rec) impl.Stock) {
	t.Helper()
	mustLeaveAlone(t, impl.Log{Recs: recs}, func(l impl.Log) impl.Log {
		mustBeApart(t, stockSpans(call(l.Recs)), logSpans(l))
		return impl.Log{}
	})
}

func TestStocksAreNewMemory(t *testing.T) {
	recs := slices.Concat(recsOfAll(), badRecs())
	stocks := append(badStocks()[:30], allHad(9), allHad(4), tooMany(5))
	for _, h := range okHolds() {
		stocks = append(stocks, stockWith(6, 1, h), stockWith(3, 6, h))
	}
	for _, s := range stocks {
		for _, r := range recs {
			given := roomyStock(s)
			before := stockInts(given)
			mustNotTouch(t, []impl.Rec{r}, func(recs []impl.Rec) impl.Stock {
				impl.StockMay(given, recs[0])
				got, _ := impl.StockDo(given, recs[0])
				mustBeApart(t, stockSpans(got), stockSpans(given))
				return got
			})
			if !slices.Equal(stockInts(given), before) {
				t.Fatal("an argument is another one", s, r)
			}
		}
	}
}

func TestNewStocksAreNewMemory(t *testing.T) {
	for _, room := range []int{-1, 0, 9, 10} {
		a, _ := impl.StockNew(room)
		b, _ := impl.StockNew(room)
		mustBeApart(t, stockSpans(a), stockSpans(b))
		for i := range a.Holds[:cap(a.Holds)] {
			a.Holds[:cap(a.Holds)][i] = impl.Hold{Many: 3, State: 1}
		}
		if c, _ := impl.StockNew(room); !sameStock(b, c) {
			t.Error(room, c)
		}
	}
}

func TestStocksOfRecordsAreNewMemory(t *testing.T) {
	recs := houseRecs()
	for _, room := range []int{-1, 0, 4, 9, 10} {
		for n := range len(recs) + 1 {
			mustNotTouch(t, recs[:n], func(recs []impl.Rec) impl.Stock {
				a, _ := impl.StockOf(room, recs)
				b, _ := impl.StockOf(room, recs)
				mustBeApart(t, stockSpans(a), stockSpans(b))
				return a
			})
		}
		for _, bad := range badRecs() {
			mustNotTouch(t, append(recs[:3:3], bad), func(recs []impl.Rec) impl.Stock {
				got, _ := impl.StockOf(room, recs)
				return got
			})
		}
	}
}

func TestNilAndEmptyListsAreOneValueInStocks(t *testing.T) {
	for _, room := range edgeInts {
		none, empty := impl.Stock{Room: room}, impl.Stock{Room: room, Holds: []impl.Hold{}}
		if impl.StockOk(none) != impl.StockOk(empty) || impl.StockFree(none) != impl.StockFree(empty) {
			t.Error(room)
		}
		for _, r := range recsOf(1) {
			if impl.StockMay(none, r) != impl.StockMay(empty, r) {
				t.Error(room, r)
			}
		}
	}
	for _, r := range recsOfAll() {
		if len(r.Many) > 0 {
			continue
		}
		emptied := impl.Rec{Kind: r.Kind, Trip: r.Trip, Many: []int{}}
		for _, h := range okHolds() {
			s := stockWith(5, r.Trip, h)
			a, okA := impl.StockDo(s, r)
			b, okB := impl.StockDo(s, emptied)
			if okA != okB || !sameStock(a, b) || impl.StockMay(s, r) != impl.StockMay(s, emptied) {
				t.Error(s, r)
			}
		}
	}
}
