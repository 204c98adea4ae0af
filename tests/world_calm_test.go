package tests

import (
	"math/rand/v2"
	"slices"
	"testing"

	"loop.example/concierge/impl"
)

// calmed is a world behind as many calm rounds as there may be.
func calmed(w impl.World) impl.World {
	return impl.WorldCalm(w, 9)
}

// endStates is the states of all trips, by all that was written down.
func endStates(w impl.World) []int {
	var out []int
	for _, trip := range impl.DeskTrips(w.Desk, false) {
		out = append(out, trip.State)
	}
	return out
}

// cameToIt is promise 73, of a world behind a calm: each trip ended, is closed or undone at its houses as it was decided, and nothing is held.
func cameToIt(w impl.World) bool {
	all := impl.DeskTrips(w.Desk, true)
	if !sameTrips(all, impl.DeskTrips(w.Desk, false)) || len(w.Nets) != 0 || len(impl.DeskWords(w.Desk)) != 0 {
		return false
	}
	for trip := 1; trip <= 6; trip++ {
		states := statesOf(impl.WorldHolds(w, trip))
		if slices.Contains(states, impl.HoldHeld) {
			return false
		}
		if trip <= len(all) && (all[trip-1].State < impl.TripKept || !endedAtAll(all, trip, states)) {
			return false
		}
	}
	return allOrNothing(w)
}

func TestP73EachTripComesToItsEnd(t *testing.T) {
	t.Parallel()
	ends := map[int]int{}
	eachMoment(73, 60, func(m moment) {
		w := calmed(m.behind)
		if !cameToIt(w) || faultOf(w, m.rooms) != 0 || !staysDecided(m.behind, w) {
			t.Fatal(m.behind, w)
		}
		for _, state := range endStates(w) {
			ends[state]++
		}
	})
	if ends[impl.TripKept] < 500 || ends[impl.TripLeft] < 500 {
		t.Error("hardly any trip ended:", ends)
	}
}

func TestCalmByTheDocument(t *testing.T) {
	t.Parallel()
	mustCalm := func(w impl.World) {
		for rounds := range 10 {
			if got, want := impl.WorldCalm(w, rounds), calmedByDocument(w, rounds); !sameWorld(got, want) {
				t.Fatal(w, rounds, got, want)
			}
		}
	}
	mustCalm(okWorld())
	mustCalm(worldOf(1, 2, 3).world)
	eachWorld(74, 60, 10, mustCalm)
	dice := rand.New(rand.NewPCG(74, 1))
	for range 300 {
		mustCalm(thrownWorld(dice))
	}
}

func TestCalmOfTooManyRounds(t *testing.T) {
	for _, w := range []impl.World{okWorld(), worldOf(1, 1, 1).world, fallen(okWorld())} {
		for _, rounds := range edgeInts {
			got := impl.WorldCalm(w, rounds)
			if rounds < 0 || rounds > 9 {
				if !isNoWorld(got) {
					t.Error(rounds, got)
				}
				continue
			}
			if !sameWorld(got, calmedByDocument(w, rounds)) {
				t.Error(rounds, got)
			}
		}
		if !sameWorld(impl.WorldCalm(w, 0), w) || isNoWorld(impl.WorldCalm(w, 9)) || !isNoWorld(impl.WorldCalm(w, 10)) {
			t.Error(w)
		}
	}
}

// fallen is a world all of which fell, nothing being kept that was not forced.
func fallen(w impl.World) impl.World {
	return done(w, evFall(0, 0), evFall(1, 0), evFall(2, 0), evFall(3, 0))
}

func TestP74MoreCalmChangesNothing(t *testing.T) {
	t.Parallel()
	mustRest := func(w impl.World) {
		still := calmed(w)
		for rounds := range 10 {
			if got := impl.WorldCalm(still, rounds); !sameWorld(got, still) {
				t.Fatal(w, rounds, still, got)
			}
		}
	}
	eachWorld(75, 60, 9, mustRest)
	dice := rand.New(rand.NewPCG(74, 2))
	for range 200 {
		mustRest(thrownWorld(dice))
	}
}

func TestP75RoundsOneBehindTheOther(t *testing.T) {
	t.Parallel()
	mustAdd := func(w impl.World) {
		for some := range 10 {
			first := impl.WorldCalm(w, some)
			for others := range 10 - some {
				if got, want := impl.WorldCalm(first, others), impl.WorldCalm(w, some+others); !sameWorld(got, want) {
					t.Fatal(w, some, others, got, want)
				}
			}
		}
	}
	eachWorld(76, 18, 12, mustAdd)
	dice := rand.New(rand.NewPCG(75, 1))
	for range 40 {
		mustAdd(thrownWorld(dice))
	}
}

// begunIn is a world in which these trips are begun, and nothing else.
func begunIn(rooms []int, trips ...[]int) impl.World {
	w := worldOf(rooms...).world
	for _, many := range trips {
		w = done(w, evBegin(many...))
	}
	return w
}

// sumOf is how many all these trips want of each house.
func sumOf(trips ...[]int) []int {
	sum := make([]int, 3)
	for _, many := range trips {
		for i, n := range many {
			sum[i] += n
		}
	}
	return sum
}

func TestP76WithRoomForAllEachIsKept(t *testing.T) {
	t.Parallel()
	dice := rand.New(rand.NewPCG(76, 1))
	most := 0
	for range 1500 {
		var trips [][]int
		for range 1 + dice.IntN(6) {
			if more := append(slices.Clone(trips), thrownMany(dice)); slices.Max(sumOf(more...)) <= 9 {
				trips = more
			}
		}
		rooms := sumOf(trips...)
		for i, n := range rooms {
			// As many as are wanted, or more.
			rooms[i] += dice.IntN(2) * dice.IntN(10-n)
		}
		w := calmed(begunIn(rooms, trips...))
		if got := endStates(w); !slices.Equal(got, slices.Repeat([]int{impl.TripKept}, len(trips))) {
			t.Fatal(rooms, trips, got)
		}
		most = max(most, len(trips))
	}
	if most != 6 {
		t.Error(most)
	}
}

func TestP77ATripThatIsGivenUpIsLeft(t *testing.T) {
	t.Parallel()
	given := 0
	eachWorld(77, 48, 1, func(w impl.World) {
		for i, trip := range impl.DeskTrips(w.Desk, false) {
			if trip.State != impl.TripAsked || !w.Desk.Up {
				continue
			}
			given++
			end := calmed(done(w, evGive(i+1)))
			states := statesOf(impl.WorldHolds(end, i+1))
			if endStates(end)[i] != impl.TripLeft {
				t.Fatal(w, i+1, end)
			}
			for house, n := range trip.Many {
				if n > 0 && states[house] != impl.HoldUndone || n == 0 && states[house] != impl.HoldNone {
					t.Fatal(w, i+1, end)
				}
			}
		}
	})
	if given < 1000 {
		t.Error("hardly any trip was given up:", given)
	}
}

// allLost is a world with all words lost.
func allLost(w impl.World) impl.World {
	for range len(w.Nets) {
		w = done(w, evLose(0))
	}
	return w
}

func TestP81WithAllWordsLost(t *testing.T) {
	t.Parallel()
	decided := 0
	eachWorld(81, 36, 1, func(w impl.World) {
		lost := allLost(w)
		if len(lost.Nets) != 0 {
			t.Fatal(w, lost)
		}
		one, other := calmed(w), calmed(lost)
		if !cameToIt(other) {
			t.Fatal(w, other)
		}
		ends, others := endStates(one), endStates(other)
		for i, trip := range impl.DeskTrips(w.Desk, false) {
			if trip.State != impl.TripAsked {
				decided++
			}
			if trip.State != impl.TripAsked && ends[i] != others[i] {
				t.Fatal(w, i+1, ends, others)
			}
		}
	})
	if decided < 1000 {
		t.Error("hardly any trip was decided:", decided)
	}
}

func TestP82BehindAFallOfAll(t *testing.T) {
	t.Parallel()
	decided := 0
	eachWorld(82, 48, 1, func(w impl.World) {
		down := fallen(w)
		if down.Desk.Up || down.Houses[0].Up || down.Houses[1].Up || down.Houses[2].Up {
			t.Fatal(down)
		}
		end := calmed(down)
		sure, ends := impl.DeskTrips(w.Desk, true), endStates(end)
		if !cameToIt(end) || len(ends) != len(sure) {
			t.Fatal(w, end)
		}
		for i, trip := range sure {
			want := map[int]int{impl.TripYes: impl.TripKept, impl.TripKept: impl.TripKept, impl.TripNo: impl.TripLeft, impl.TripLeft: impl.TripLeft}[trip.State]
			if want != 0 && ends[i] != want {
				t.Fatal(w, i+1, ends)
			}
			if want != 0 {
				decided++
			}
		}
	})
	if decided < 1000 {
		t.Error("hardly any trip was decided:", decided)
	}
}

func TestP83WhatIsFreeAndWhatIsKept(t *testing.T) {
	t.Parallel()
	eachMoment(83, 48, func(m moment) {
		w := calmed(m.behind)
		var kept [][]int
		for _, trip := range impl.DeskTrips(w.Desk, false) {
			if trip.State == impl.TripKept {
				kept = append(kept, trip.Many)
			}
		}
		sum := sumOf(kept...)
		for i, h := range w.Houses {
			if impl.StockFree(impl.HouseStock(h, false))+sum[i] != m.rooms[i] {
				t.Fatal(m.behind, w)
			}
		}
	})
}

// keptOf is how many of the first two trips are kept.
func keptOf(w impl.World) int {
	count := 0
	for _, state := range endStates(w)[:2] {
		if state == impl.TripKept {
			count++
		}
	}
	return count
}

// Of the first house alone: all rooms, and all that two trips can want of them that is more than half.
func TestP87TwoTripsOfMoreThanHalf(t *testing.T) {
	for room := range 6 {
		for a := 1; a <= 3; a++ {
			for b := 1; b <= 3; b++ {
				if 2*a <= room || 2*b <= room {
					continue
				}
				got := keptOf(calmed(begunIn([]int{room, 0, 0}, []int{a, 0, 0}, []int{b, 0, 0})))
				want := 0
				if a <= room || b <= room {
					want = 1
				}
				if got != want {
					t.Error(room, a, b, got)
				}
			}
		}
	}
}

// With other houses too: if each of the trips fits, one of them is kept.
func TestP87TwoTripsThatFitAlone(t *testing.T) {
	t.Parallel()
	dice := rand.New(rand.NewPCG(87, 1))
	ones := 0
	for range 4000 {
		rooms, all := thrownRooms(dice), wanted()
		a, b := all[dice.IntN(63)], all[dice.IntN(63)]
		if 2*a[0] <= rooms[0] || 2*b[0] <= rooms[0] {
			continue
		}
		fit := true
		for i, room := range rooms {
			fit = fit && a[i] <= room && b[i] <= room
		}
		got := keptOf(calmed(begunIn(rooms, a, b)))
		if got > 1 || fit && got != 1 {
			t.Fatal(rooms, a, b, got)
		}
		if fit {
			ones++
		}
	}
	if ones < 100 {
		t.Error("hardly any fit:", ones)
	}
}

// Whatever happens between, never both.
func TestP87NeverBoth(t *testing.T) {
	t.Parallel()
	dice := rand.New(rand.NewPCG(87, 2))
	kept := 0
	for play := range 500 {
		room := 1 + dice.IntN(5)
		want := func() []int { return []int{room/2 + 1, dice.IntN(2), 0} }
		w := begunIn([]int{room, 1 + dice.IntN(2), 0}, want(), want())
		for range 70 {
			w = done(w, thrownEvent(dice, w, weathers()[play%6]))
		}
		w = calmed(w)
		// A fall may have lost them ahead of their being forced, and others come in their place.
		list := impl.DeskTrips(w.Desk, false)
		if len(list) < 2 || 2*list[0].Many[0] <= room || 2*list[1].Many[0] <= room {
			continue
		}
		if keptOf(w) > 1 {
			t.Fatal(w)
		}
		kept += keptOf(w)
	}
	if kept < 50 {
		t.Error("hardly any was kept:", kept)
	}
}

func TestP92TwoTripsWithRoomForBoth(t *testing.T) {
	t.Parallel()
	var two [][]int
	for _, many := range wanted() {
		if len(housesByDocument(many)) == 2 {
			two = append(two, many)
		}
	}
	for i, a := range two {
		for _, b := range two[:i+1] {
			for _, pair := range [][2][]int{{a, b}, {b, a}} {
				w := calmed(begunIn(sumOf(a, b), pair[0], pair[1]))
				if !slices.Equal(endStates(w), []int{impl.TripKept, impl.TripKept}) {
					t.Fatal(pair, w)
				}
				for _, h := range w.Houses {
					if impl.StockFree(impl.HouseStock(h, false)) != 0 {
						t.Fatal(pair, w)
					}
				}
			}
		}
	}
}
