package tests

import (
	"slices"
	"testing"

	"loop.example/concierge/impl"
)

// neverTooMany is promise 69: false, if any house lets more be had than it has.
func neverTooMany(w impl.World, rooms []int) bool {
	for i, h := range w.Houses {
		s := impl.HouseStock(h, false)
		free := impl.StockFree(s)
		if h.Room != rooms[i] || free < 0 || free+hadByDocument(s.Holds) != rooms[i] {
			return false
		}
	}
	return true
}

// allOrNothing is promise 70, of each trip that there can be.
func allOrNothing(w impl.World) bool {
	sure, all := impl.DeskTrips(w.Desk, true), impl.DeskTrips(w.Desk, false)
	for trip := 1; trip <= 6; trip++ {
		holds := impl.WorldHolds(w, trip)
		states := statesOf(holds)
		decided := stateIn(sure, trip)
		closed, undone := slices.Contains(states, impl.HoldClosed), slices.Contains(states, impl.HoldUndone)
		if closed && undone {
			return false
		}
		if closed && decided != impl.TripYes && decided != impl.TripKept {
			return false
		}
		if undone && decided != impl.TripNo && decided != impl.TripLeft {
			return false
		}
		if !asManyAsWanted(sure, trip, holds) || !endedAtAll(all, trip, states) {
			return false
		}
	}
	return true
}

// asManyAsWanted says whether what is held, or closed, is as many as the trip, forced, wants; and nothing is done where it wants none.
func asManyAsWanted(sure []impl.Trip, trip int, holds []impl.Hold) bool {
	for i, h := range holds {
		if h.State == impl.HoldNone {
			continue
		}
		if trip > len(sure) || sure[trip-1].Many[i] == 0 {
			return false
		}
		if h.State != impl.HoldUndone && h.Many != sure[trip-1].Many[i] {
			return false
		}
	}
	return true
}

// endedAtAll says whether a trip, if it ended, is closed, or undone, at all houses of which it wants any.
func endedAtAll(all []impl.Trip, trip int, states []int) bool {
	ended := map[int]int{impl.TripKept: impl.HoldClosed, impl.TripLeft: impl.HoldUndone}[stateIn(all, trip)]
	if ended == 0 {
		return true
	}
	for _, house := range housesByDocument(all[trip-1].Many) {
		if states[house-1] != ended {
			return false
		}
	}
	return true
}

// toldIsSure is promise 84.
func toldIsSure(w impl.World) bool {
	for _, told := range w.Desk.Told {
		forced := impl.HouseStock(w.Houses[told.House-1], true).Holds[told.Trip-1].State
		decided := stateIn(impl.DeskTrips(w.Desk, false), told.Trip)
		saidNo := decided == impl.TripNo || decided == impl.TripLeft
		sure := true
		switch told.Kind {
		case impl.WordHeld:
			sure = forced == impl.HoldHeld || forced == impl.HoldClosed || forced == impl.HoldUndone && saidNo
		case impl.WordClosed:
			sure = forced == impl.HoldClosed
		case impl.WordUndone:
			sure = forced == impl.HoldUndone
		}
		if !sure {
			return false
		}
	}
	return true
}

// netsAreOfForcedTrips is promise 93.
func netsAreOfForcedTrips(w impl.World) bool {
	sure := impl.DeskTrips(w.Desk, true)
	for _, word := range w.Nets {
		if !impl.WordOk(word) || word.Trip > len(sure) || sure[word.Trip-1].Many[word.House-1] == 0 {
			return false
		}
	}
	return len(w.Nets) <= 14
}

// fewRecords is promise 94.
func fewRecords(w impl.World) bool {
	mostOf := func(l impl.Log) int {
		count := make([]int, 7)
		for _, r := range l.Recs {
			count[r.Trip]++
		}
		return slices.Max(count)
	}
	if mostOf(w.Desk.Log) > 3 {
		return false
	}
	return !slices.ContainsFunc(w.Houses, func(h impl.House) bool { return mostOf(h.Log) > 2 })
}

// noMoreThanWanted is promise 95.
func noMoreThanWanted(w impl.World) bool {
	for i, trip := range impl.DeskTrips(w.Desk, false) {
		for house, h := range impl.WorldHolds(w, i+1) {
			had := h.State == impl.HoldHeld || h.State == impl.HoldClosed
			open := trip.State == impl.TripAsked || trip.State == impl.TripYes
			if open && had && h.Many > trip.Many[house] {
				return false
			}
			if trip.State == impl.TripNo && h.State == impl.HoldClosed {
				return false
			}
		}
	}
	return true
}

// staysDecided is promise 72, from one world to a later one.
func staysDecided(before, behind impl.World) bool {
	sure := impl.DeskTrips(behind.Desk, true)
	// Each row is a state, and those that may follow it.
	next := map[int][]int{2: {2, 4}, 3: {3, 5}, 4: {4}, 5: {5}}
	for i, trip := range impl.DeskTrips(before.Desk, true) {
		if may := next[trip.State]; may != nil && !slices.Contains(may, stateIn(sure, i+1)) {
			return false
		}
	}
	for i, h := range before.Houses {
		now := impl.HouseStock(behind.Houses[i], true)
		for trip, hold := range impl.HouseStock(h, true).Holds {
			if hold.State == impl.HoldClosed && now.Holds[trip] != hold {
				return false
			}
		}
	}
	return true
}

// faultOf names the first promise that a world breaks which events led to; 0, if none.
func faultOf(w impl.World, rooms []int) int {
	switch {
	case !neverTooMany(w, rooms):
		return 69
	case !allOrNothing(w):
		return 70
	case !toldIsSure(w):
		return 84
	case !netsAreOfForcedTrips(w):
		return 93
	case !fewRecords(w):
		return 94
	case !noMoreThanWanted(w):
		return 95
	}
	return 0
}

func TestP69P71NeverTooMany(t *testing.T) {
	t.Parallel()
	full := 0
	eachMoment(69, 900, func(m moment) {
		if !neverTooMany(m.behind, m.rooms) {
			t.Fatal(m)
		}
		for _, h := range m.behind.Houses {
			if h.Room > 0 && impl.StockFree(impl.HouseStock(h, false)) == 0 {
				full++
			}
		}
	})
	if full < 1000 {
		t.Error("hardly any house was full:", full)
	}
}

func TestP70P71AllOrNothing(t *testing.T) {
	t.Parallel()
	seen := map[int]int{}
	eachMoment(70, 900, func(m moment) {
		if !allOrNothing(m.behind) {
			t.Fatal(m)
		}
		if m.at == 79 {
			for trip := range impl.DeskTrips(m.behind.Desk, false) {
				for _, state := range statesOf(impl.WorldHolds(m.behind, trip+1)) {
					seen[state]++
				}
			}
		}
	})
	if seen[impl.HoldHeld] < 500 || seen[impl.HoldClosed] < 300 || seen[impl.HoldUndone] < 300 {
		t.Error("hardly anything happened:", seen)
	}
}

func TestP72WhatWasDecidedStaysSo(t *testing.T) {
	t.Parallel()
	ended := 0
	var old []impl.World
	eachMoment(72, 700, func(m moment) {
		if m.at == 0 {
			old = nil
		}
		if !staysDecided(m.before, m.behind) {
			t.Fatal(m)
		}
		// And over many events: what was so long ago is so.
		if m.at%10 == 0 {
			old = append(old, m.behind)
		}
		if m.at != 79 {
			return
		}
		for _, w := range old {
			if !staysDecided(w, m.behind) {
				t.Fatal(w, m.behind)
			}
		}
		for _, trip := range impl.DeskTrips(m.behind.Desk, true) {
			if trip.State >= impl.TripKept {
				ended++
			}
		}
	})
	if ended < 300 {
		t.Error("hardly any trip ended:", ended)
	}
}

func TestP84WhatWasToldIsSure(t *testing.T) {
	t.Parallel()
	told, undoneSince := map[int]int{}, 0
	eachMoment(84, 900, func(m moment) {
		if !toldIsSure(m.behind) {
			t.Fatal(m)
		}
		for _, w := range m.behind.Desk.Told {
			told[w.Kind]++
			if w.Kind == impl.WordHeld && impl.WorldHolds(m.behind, w.Trip)[w.House-1].State == impl.HoldUndone {
				undoneSince++
			}
		}
	})
	for kind := impl.WordHeld; kind <= impl.WordUndone; kind++ {
		if told[kind] < 1000 {
			t.Error("hardly told:", kind, told)
		}
	}
	if undoneSince < 100 {
		t.Error("hardly any hold was undone since:", undoneSince)
	}
}

func TestP93WordsUnderWayAreOfForcedTrips(t *testing.T) {
	t.Parallel()
	most := 0
	eachMoment(93, 900, func(m moment) {
		if !netsAreOfForcedTrips(m.behind) {
			t.Fatal(m)
		}
		most = max(most, len(m.behind.Nets))
	})
	if most != 14 {
		t.Error("never so many as there may be:", most)
	}
}

func TestP94FewRecordsOfEachTrip(t *testing.T) {
	t.Parallel()
	eachMoment(94, 900, func(m moment) {
		if !fewRecords(m.behind) {
			t.Fatal(m)
		}
	})
}

func TestP95NoMoreThanIsWanted(t *testing.T) {
	t.Parallel()
	eachMoment(95, 900, func(m moment) {
		if !noMoreThanWanted(m.behind) {
			t.Fatal(m)
		}
	})
}

func TestP85WithoutEvSayNothingIsWrittenDown(t *testing.T) {
	t.Parallel()
	noes := 0
	other := func(e impl.Event) impl.Event {
		if e.Kind == impl.EvSay {
			return evForce(0)
		}
		return e
	}
	eachMomentOf(85, 500, other, func(m moment) {
		for _, h := range m.behind.Houses {
			if len(h.Log.Recs) != 0 {
				t.Fatal(m)
			}
		}
		for _, trip := range impl.DeskTrips(m.behind.Desk, false) {
			if trip.State == impl.TripYes || trip.State == impl.TripKept {
				t.Fatal(m)
			}
			if trip.State == impl.TripNo {
				noes++
			}
		}
		if len(m.behind.Nets) != 0 {
			t.Fatal(m)
		}
	})
	if noes < 100 {
		t.Error("hardly any trip was given up:", noes)
	}
}

func TestP86WithoutEvForceNothingIsSaid(t *testing.T) {
	t.Parallel()
	trips := 0
	other := func(e impl.Event) impl.Event {
		switch e.Kind {
		case impl.EvForce:
			return evSay(e.B)
		case impl.EvFall:
			e.B = min(e.B, 0)
		}
		return e
	}
	eachMomentOf(86, 500, other, func(m moment) {
		if len(m.behind.Nets) != 0 || len(impl.DeskWords(m.behind.Desk)) != 0 {
			t.Fatal(m)
		}
		for _, h := range m.behind.Houses {
			if len(h.Log.Recs) != 0 {
				t.Fatal(m)
			}
		}
		trips += len(impl.DeskTrips(m.behind.Desk, false))
	})
	if trips < 1000 {
		t.Error("hardly any trip was begun:", trips)
	}
}

// A fall that keeps what was written does what a force does: it is said then.
func TestP86AFallThatKeepsIsAForce(t *testing.T) {
	w := done(worldOf(1, 1, 1).world, evBegin(1, 0, 0), evFall(0, 1), evRise(0), evSay(0), evBring(0))
	if got := impl.WorldHolds(w, 1)[0]; got != (impl.Hold{Many: 1, State: impl.HoldHeld}) {
		t.Error(got)
	}
	w = done(w, evFall(1, 1), evRise(1), evSay(0), evBring(0), evBring(0))
	if got := stateIn(impl.DeskTrips(w.Desk, false), 1); got != impl.TripYes {
		t.Error(got)
	}
}

func TestP91AFallThatKeepsAllChangesNothingWritten(t *testing.T) {
	t.Parallel()
	mustKeepAll := func(w impl.World, whos ...int) {
		got := w
		for _, who := range whos {
			got = done(got, evFall(who, 40), evRise(who))
		}
		for who := range 4 {
			was, is, up := logOf(w, who), logOf(got, who), upOf(got, who)
			if !slices.Contains(whos, who) {
				if !sameLog(was, is) || up != upOf(w, who) {
					t.Fatal(w, whos, got)
				}
				continue
			}
			if !slices.EqualFunc(was.Recs, is.Recs, sameRec) || is.Forced != len(is.Recs) || !up {
				t.Fatal(w, whos, got)
			}
		}
		if !slices.Equal(got.Nets, w.Nets) || !sameTrips(impl.DeskTrips(got.Desk, false), impl.DeskTrips(w.Desk, false)) {
			t.Fatal(w, whos, got)
		}
		for trip := 1; trip <= 6; trip++ {
			if !slices.Equal(impl.WorldHolds(got, trip), impl.WorldHolds(w, trip)) {
				t.Fatal(w, whos, got)
			}
		}
	}
	eachWorld(91, 48, 1, func(w impl.World) {
		for who := range 4 {
			mustKeepAll(w, who)
		}
		mustKeepAll(w, 0, 1, 2, 3)
	})
}

// logOf is the log of the desk, if who is 0, or of a house.
func logOf(w impl.World, who int) impl.Log {
	if who == 0 {
		return w.Desk.Log
	}
	return w.Houses[who-1].Log
}

// upOf says whether the desk, if who is 0, or a house, is up.
func upOf(w impl.World, who int) bool {
	if who == 0 {
		return w.Desk.Up
	}
	return w.Houses[who-1].Up
}
