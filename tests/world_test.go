package tests

import (
	"math"
	"math/rand/v2"
	"slices"
	"testing"

	"loop.example/concierge/impl"
)

func TestLimitsAndKindsOfWorlds(t *testing.T) {
	got := []int{impl.NetMax, impl.PlayMax, impl.CalmMax, impl.EvBegin, impl.EvGive, impl.EvSay, impl.EvBring, impl.EvLose, impl.EvTwice, impl.EvForce, impl.EvFall, impl.EvRise}
	if want := []int{14, 80, 9, 1, 2, 3, 4, 5, 6, 7, 8, 9}; !slices.Equal(got, want) {
		t.Error(got)
	}
}

func TestP66WorldNewOfEveryRooms(t *testing.T) {
	for a := range 10 {
		for b := range 10 {
			for c := range 10 {
				got := worldOf(a, b, c)
				want := impl.World{
					Desk:   impl.Desk{Up: true},
					Houses: []impl.House{{Id: 1, Up: true, Room: a}, {Id: 2, Up: true, Room: b}, {Id: 3, Up: true, Room: c}},
				}
				if !got.ok || !sameWorld(got.world, want) || !impl.WorldOk(got.world) {
					t.Fatal(a, b, c, got)
				}
				mustBeNew(t, got.world, []int{a, b, c})
			}
		}
	}
}

// mustBeNew fails unless a world has no trips, all is free, and nothing is under way.
func mustBeNew(t *testing.T, w impl.World, rooms []int) {
	t.Helper()
	if len(impl.DeskTrips(w.Desk, false)) != 0 || len(impl.DeskWords(w.Desk)) != 0 || len(w.Nets) != 0 {
		t.Fatal(w)
	}
	for i, h := range w.Houses {
		if impl.StockFree(impl.HouseStock(h, false)) != rooms[i] || impl.StockFree(impl.HouseStock(h, true)) != rooms[i] {
			t.Fatal(w)
		}
	}
	for trip := 1; trip <= 6; trip++ {
		if !slices.Equal(impl.WorldHolds(w, trip), make([]impl.Hold, 3)) {
			t.Fatal(w, trip)
		}
	}
}

// badRooms is rooms of which there is no world.
func badRooms() [][]int {
	out := [][]int{nil, {}, {1}, {1, 1}, {9, 0}, {1, 1, 1, 1}, {0, 0, 0, 0}, {1, 1, 1, 10}, make([]int, 6), make([]int, 100000)}
	for place := range 3 {
		for _, room := range []int{math.MinInt, -256, -9, -1, 10, 11, 256, 265, math.MaxInt} {
			rooms := []int{0, 5, 9}
			rooms[place] = room
			out = append(out, rooms)
		}
	}
	return append(out, []int{-1, -1, -1}, []int{10, 10, 10})
}

func TestRoomsThatAreNone(t *testing.T) {
	for _, rooms := range badRooms() {
		if got := worldOf(rooms...); got.ok || !isNoWorld(got.world) {
			t.Error(len(rooms), got)
		}
		for _, events := range [][]impl.Event{nil, {}, {evBegin(1, 0, 0)}, make([]impl.Event, 80), make([]impl.Event, 81)} {
			if got := played(rooms, events); got.ok || !isNoWorld(got.world) {
				t.Error(len(rooms), len(events), got)
			}
		}
	}
}

// okWorld is a world in which much is going on.
func okWorld() impl.World {
	w := worldOf(9, 8, 7).world
	w.Desk = deskWith(9, []impl.Word{heldBy(1, 1), fullBy(3, 2)}, deskRecs()...)
	for i := range w.Houses {
		w.Houses[i] = houseWith(i+1, 9-i, 4+i, houseRecs()...)
	}
	w.Nets = slices.Concat(wordsTo(1, 1)[2:], wordsTo(3, 6)[2:])
	return w
}

// copied is the world, in memory of its own, so that one of its parts can be set.
func copied(w impl.World) impl.World {
	w.Houses, w.Nets = slices.Clone(w.Houses), slices.Clone(w.Nets)
	return w
}

// badWorlds is worlds each of which is not ok for one reason.
func badWorlds() []impl.World {
	out := []impl.World{{}, {Desk: impl.DeskNew()}, {Houses: okWorld().Houses[:2]}}
	for _, d := range badDesks() {
		w := okWorld()
		w.Desk = d
		out = append(out, w, impl.World{Desk: d, Houses: worldOf(1, 1, 1).world.Houses})
	}
	for _, from := range []impl.World{okWorld(), worldOf(1, 2, 3).world} {
		out = append(out, worldsOfBadHouses(from)...)
		out = append(out, worldsOfBadNets(from)...)
	}
	return out
}

func worldsOfBadHouses(from impl.World) []impl.World {
	var out []impl.World
	add := func(houses ...impl.House) {
		w := copied(from)
		w.Houses = houses
		out = append(out, w)
	}
	a, b, c := from.Houses[0], from.Houses[1], from.Houses[2]
	four := c
	four.Id = 4
	add()
	add(a)
	add(a, b)
	add(b, c)
	add(a, b, c, four)
	add(a, b, c, c)
	add(a, b, c, impl.House{})
	add(a, c, b)
	add(b, a, c)
	add(c, b, a)
	add(b, c, a)
	add(a, a, a)
	add(a, b, b)
	add(a, a, c)
	add(slices.Repeat([]impl.House{a, b, c}, 2)...)
	add(slices.Repeat([]impl.House{a, b, c}, 1000)...)
	for _, bad := range badHouses() {
		for place := range 3 {
			houses := []impl.House{a, b, c}
			// Where the number is not what is wrong it is the right one for the place.
			if bad.Id >= 1 && bad.Id <= 3 {
				bad.Id = place + 1
			}
			houses[place] = bad
			add(houses...)
		}
	}
	return out
}

func worldsOfBadNets(from impl.World) []impl.World {
	var out []impl.World
	add := func(nets []impl.Word) {
		w := copied(from)
		w.Nets = nets
		out = append(out, w)
	}
	hold := impl.Word{Kind: 1, House: 2, Trip: 1, Many: 2}
	for _, n := range []int{15, 16, 28, 256, 100000} {
		add(slices.Repeat([]impl.Word{hold}, n))
		add(slices.Repeat([]impl.Word{heldBy(1, 1)}, n))
	}
	for _, bad := range badWords() {
		add([]impl.Word{bad})
		for _, place := range []int{0, 6, 13} {
			nets := slices.Repeat([]impl.Word{hold}, 14)
			nets[place] = bad
			add(nets)
		}
	}
	return out
}

// someEvents is one event of each kind that there is, two that are none, and each once more with other numbers.
func someEvents() []impl.Event {
	var out []impl.Event
	for kind := range 11 {
		out = append(out, impl.Event{Kind: kind, Many: []int{1, 0, 2}}, impl.Event{Kind: kind, A: 1, B: 2, Many: []int{0, 1, 0}})
	}
	return out
}

func TestWorldsThatAreNone(t *testing.T) {
	t.Parallel()
	events := someEvents()
	for i, w := range badWorlds() {
		if worldOkByDocument(w) || impl.WorldOk(w) {
			t.Fatal(i, w.Desk, w.Houses, len(w.Nets))
		}
		for _, e := range events {
			if got := impl.WorldDo(w, e); !isNoWorld(got) {
				t.Fatal(i, e, got)
			}
		}
		for _, rounds := range []int{-1, 0, 1, 4, 9, 10} {
			if got := impl.WorldCalm(w, rounds); !isNoWorld(got) {
				t.Fatal(i, rounds, got)
			}
		}
		for trip := -1; trip <= 8; trip++ {
			if got := impl.WorldHolds(w, trip); len(got) != 0 {
				t.Fatal(i, trip, got)
			}
		}
	}
}

func TestWorldsThatAreOk(t *testing.T) {
	t.Parallel()
	mustBeOk := func(w impl.World) {
		t.Helper()
		if !worldOkByDocument(w) || !impl.WorldOk(w) {
			t.Fatal(w)
		}
	}
	mustBeOk(okWorld())
	for _, d := range someDesks() {
		w := okWorld()
		w.Desk = d
		mustBeOk(w)
	}
	// Words of trips that were never begun are in form too.
	for n := range 15 {
		w := okWorld()
		w.Nets = slices.Repeat([]impl.Word{undoneBy(3, 6)}, n)
		mustBeOk(w)
	}
	for _, word := range okWords() {
		w := worldOf(0, 0, 0).world
		w.Nets = []impl.Word{word, word}
		mustBeOk(w)
	}
	for downs := range 16 {
		w := okWorld()
		if downs&8 != 0 {
			w.Desk = down(w.Desk)
		}
		for i := range 3 {
			w.Houses[i].Up = downs>>i&1 == 0
		}
		mustBeOk(w)
	}
	dice := rand.New(rand.NewPCG(66, 1))
	for range 3000 {
		mustBeOk(thrownWorld(dice))
	}
}

func TestP79HoldsOfEachTrip(t *testing.T) {
	t.Parallel()
	dice := rand.New(rand.NewPCG(79, 1))
	mustTell := func(w impl.World) {
		for trip := 1; trip <= 6; trip++ {
			got := impl.WorldHolds(w, trip)
			if !slices.Equal(got, tripsHeldAt(w, trip)) {
				t.Fatal(w, trip, got)
			}
			for i, h := range w.Houses {
				if got[i] != impl.HouseStock(h, false).Holds[trip-1] {
					t.Fatal(w, trip, got)
				}
			}
		}
	}
	for range 2000 {
		mustTell(thrownWorld(dice))
	}
	eachWorld(79, 120, 5, mustTell)
	mustTell(okWorld())
}

func TestP79TripsThatThereCanNotBe(t *testing.T) {
	for _, w := range []impl.World{okWorld(), worldOf(1, 1, 1).world} {
		for _, trip := range edgeInts {
			got := impl.WorldHolds(w, trip)
			if (trip < 1 || trip > 6) && len(got) != 0 || trip >= 1 && trip <= 6 && len(got) != 3 {
				t.Error(trip, got)
			}
		}
	}
}

// What is not forced counts, and a house that is down still has what it has.
func TestP79HoldsThatAreNotForced(t *testing.T) {
	w := worldOf(3, 2, 1).world
	w.Houses[0] = houseWith(1, 3, 0, holdRec(2, 3))
	w.Houses[1] = houseWith(2, 2, 1, holdRec(2, 1), closeRec(2))
	w.Houses[1].Up = false
	w.Houses[2] = houseWith(3, 1, 0, undoRec(2), holdRec(1, 1))
	want := []impl.Hold{{Many: 3, State: impl.HoldHeld}, {Many: 1, State: impl.HoldClosed}, {State: impl.HoldUndone}}
	if got := impl.WorldHolds(w, 2); !slices.Equal(got, want) {
		t.Error(got)
	}
	want = []impl.Hold{{}, {}, {Many: 1, State: impl.HoldHeld}}
	if got := impl.WorldHolds(w, 1); !slices.Equal(got, want) {
		t.Error(got)
	}
}
