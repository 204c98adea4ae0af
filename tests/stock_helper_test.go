package tests

import (
	"math"
	"math/rand/v2"
	"slices"
	"testing"

	"loop.example/concierge/impl"
)

// okHolds is every hold that is ok, once.
func okHolds() []impl.Hold {
	return []impl.Hold{
		{Many: 0, State: 0},
		{Many: 1, State: 1}, {Many: 2, State: 1}, {Many: 3, State: 1},
		{Many: 1, State: 2}, {Many: 2, State: 2}, {Many: 3, State: 2},
		{Many: 0, State: 3}, {Many: 1, State: 3}, {Many: 2, State: 3}, {Many: 3, State: 3},
	}
}

// hadByDocument is how many are held, or closed.
func hadByDocument(holds []impl.Hold) int {
	sum := 0
	for _, h := range holds {
		if h.State == 1 || h.State == 2 {
			sum += h.Many
		}
	}
	return sum
}

// freeByDocument says once more what the document does of StockFree, with its numbers written out.
func freeByDocument(s impl.Stock) int {
	if s.Room < 0 || s.Room > 9 || len(s.Holds) != 6 {
		return -1
	}
	for _, h := range s.Holds {
		if !slices.Contains(okHolds(), h) {
			return -1
		}
	}
	return max(s.Room-hadByDocument(s.Holds), -1)
}

// mayByDocument is of an ok stock and an ok record.
func mayByDocument(s impl.Stock, r impl.Rec) bool {
	state := s.Holds[r.Trip-1].State
	switch r.Kind {
	case 1:
		return state == 0 && r.Many[0] <= freeByDocument(s)
	case 2:
		return state == 1
	case 3:
		return state == 0 || state == 1
	}
	return false
}

// doneByDocument is of a record that may come.
func doneByDocument(s impl.Stock, r impl.Rec) impl.Stock {
	out := impl.Stock{Room: s.Room, Holds: slices.Clone(s.Holds)}
	hold := &out.Holds[r.Trip-1]
	switch r.Kind {
	case 1:
		*hold = impl.Hold{Many: r.Many[0], State: 1}
	case 2:
		hold.State = 2
	case 3:
		hold.State = 3
	}
	return out
}

// noHolds is of each trip a hold of nothing.
func noHolds() []impl.Hold {
	return make([]impl.Hold, 6)
}

// stockWith is a stock of which one trip has this, all others nothing.
func stockWith(room, trip int, h impl.Hold) impl.Stock {
	s := impl.Stock{Room: room, Holds: noHolds()}
	s.Holds[trip-1] = h
	return s
}

// eachHolds calls f with all holds of which at most two trips have something, and with many of which all may; what f keeps is its own.
func eachHolds(f func(holds []impl.Hold)) {
	f(noHolds())
	some := okHolds()[1:]
	for a := range 6 {
		for _, first := range some {
			holds := noHolds()
			holds[a] = first
			f(holds)
			for b := range a {
				for _, second := range some {
					both := slices.Clone(holds)
					both[b] = second
					f(both)
				}
			}
		}
	}
	dice := rand.New(rand.NewPCG(2, 13))
	for range 1500 {
		holds := noHolds()
		for i := range holds {
			holds[i] = okHolds()[dice.IntN(11)]
		}
		f(holds)
	}
}

// eachStock calls f with ok stocks of every room.
func eachStock(f func(s impl.Stock)) {
	eachHolds(func(holds []impl.Hold) {
		for room := hadByDocument(holds); room <= 9; room++ {
			f(impl.Stock{Room: room, Holds: slices.Clone(holds)})
		}
	})
}

// recsOf is of one trip each record that houses have, and one of each kind that the desk has.
func recsOf(trip int) []impl.Rec {
	return []impl.Rec{
		{Kind: impl.RecHold, Trip: trip, Many: []int{1}},
		{Kind: impl.RecHold, Trip: trip, Many: []int{2}},
		{Kind: impl.RecHold, Trip: trip, Many: []int{3}},
		{Kind: impl.RecClose, Trip: trip},
		{Kind: impl.RecUndo, Trip: trip},
		{Kind: impl.RecBegin, Trip: trip, Many: []int{1, 0, 0}},
		{Kind: impl.RecYes, Trip: trip},
		{Kind: impl.RecNo, Trip: trip},
		{Kind: impl.RecEnd, Trip: trip},
	}
}

// recsOfAll is recsOf of each trip.
func recsOfAll() []impl.Rec {
	var out []impl.Rec
	for trip := 1; trip <= 6; trip++ {
		out = append(out, recsOf(trip)...)
	}
	return out
}

// eachStep calls f with ok stocks and records that may come there, and what is behind them.
func eachStep(t *testing.T, f func(s impl.Stock, r impl.Rec, behind impl.Stock)) {
	t.Helper()
	recs := recsOfAll()
	eachStock(func(s impl.Stock) {
		for _, r := range recs {
			if impl.StockMay(s, r) {
				f(s, r, mustDo(t, s, r))
			}
		}
	})
}

func mustDo(t *testing.T, s impl.Stock, r impl.Rec) impl.Stock {
	t.Helper()
	behind, ok := impl.StockDo(s, r)
	if !ok {
		t.Fatal("may, and is not done:", s, r)
	}
	return behind
}

// badHolds is holds none of which is ok.
func badHolds() []impl.Hold {
	var out []impl.Hold
	for _, state := range edgeInts {
		for _, many := range edgeInts {
			h := impl.Hold{Many: many, State: state}
			if !slices.Contains(okHolds(), h) {
				out = append(out, h)
			}
		}
	}
	return out
}

// badStocks is stocks each of which is not ok for one reason.
func badStocks() []impl.Stock {
	out := []impl.Stock{{}, {Holds: []impl.Hold{}}, {Room: 5}, {Room: -1}}
	for _, room := range []int{math.MinInt, -9, -2, -1, 10, 11, 256, 257, math.MaxInt} {
		out = append(out, impl.Stock{Room: room, Holds: noHolds()}, stockWith(room, 2, impl.Hold{Many: 1, State: 1}))
	}
	for _, n := range []int{1, 2, 5, 7, 12, 10000} {
		out = append(out, impl.Stock{Room: 9, Holds: make([]impl.Hold, n)})
	}
	for _, h := range badHolds() {
		for trip := 1; trip <= 6; trip++ {
			out = append(out, stockWith(9, trip, h))
		}
	}
	for room := range 10 {
		out = append(out, tooMany(room))
	}
	out = append(out, impl.Stock{Room: 0, Holds: slices.Repeat([]impl.Hold{{Many: 3, State: 2}}, 6)})
	return out
}

// tooMany is a stock of which one more is had than there are.
func tooMany(room int) impl.Stock {
	s := allHad(room)
	for i, h := range s.Holds {
		if h.State == 0 {
			s.Holds[i] = impl.Hold{Many: 1, State: 1 + i%2}
			return s
		}
	}
	return s
}

// allHad is a stock of which nothing is free; some trip has nothing yet.
func allHad(room int) impl.Stock {
	s := impl.Stock{Room: room, Holds: noHolds()}
	left := room
	for i := range s.Holds {
		if n := min(left, 3); n > 0 {
			s.Holds[i] = impl.Hold{Many: n, State: 1 + i%2}
			left -= n
		}
	}
	return s
}

func sameStock(a, b impl.Stock) bool {
	return a.Room == b.Room && slices.Equal(a.Holds, b.Holds)
}

func isNoStock(s impl.Stock) bool {
	return s.Room == 0 && len(s.Holds) == 0
}

func stockSpans(s impl.Stock) []span {
	return []span{spanOf(s.Holds)}
}

// roomyStock is the stock, with room behind its holds in which others stand.
func roomyStock(s impl.Stock) impl.Stock {
	holds := append(make([]impl.Hold, 0, len(s.Holds)+3), s.Holds...)
	copy(holds[len(holds):cap(holds)], []impl.Hold{{Many: -51, State: -52}, {Many: 1, State: 1}, {Many: -53, State: -54}})
	return impl.Stock{Room: s.Room, Holds: holds}
}

// stockInts is all numbers of a stock, those in its spare room too.
func stockInts(s impl.Stock) []int {
	out := []int{s.Room, len(s.Holds), cap(s.Holds)}
	for _, h := range s.Holds[:cap(s.Holds)] {
		out = append(out, h.Many, h.State)
	}
	return out
}
