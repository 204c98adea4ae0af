package tests

import (
	"math"
	"math/rand/v2"
	"slices"
	"testing"

	"loop.example/concierge/impl"
)

// numbersAround is places in a list of so many, and what is past its ends.
func numbersAround(n int) []int {
	return []int{math.MinInt, -256, -1, 0, 1, n / 2, n - 1, n, n + 1, 13, 14, 15, 256, math.MaxInt}
}

// eachEvent is events of each kind, and of none, with numbers at their edges.
func eachEvent(w impl.World) []impl.Event {
	var out []impl.Event
	for _, a := range slices.Concat(numbersAround(len(w.Nets)), numbersAround(len(deskWordsByDocument(w.Desk))), []int{2, 3, 4, 5, 6, 7}) {
		for _, b := range []int{math.MinInt, -1, 0, 1, 2, 3, 40, math.MaxInt} {
			out = append(out, evFall(a, b))
		}
		for kind := 2; kind <= 9; kind++ {
			out = append(out, impl.Event{Kind: kind, A: a, Many: []int{1, 1, 1}})
		}
	}
	for _, kind := range edgeInts {
		out = append(out, impl.Event{Kind: kind, A: 1, B: 1, Many: []int{1, 2, 0}}, impl.Event{Kind: kind})
	}
	for _, many := range append(badManys(), wanted()...) {
		out = append(out, impl.Event{Kind: 1, A: -1, B: 99, Many: many})
	}
	return out
}

func TestEveryEventInManyWorlds(t *testing.T) {
	t.Parallel()
	dice := rand.New(rand.NewPCG(67, 1))
	mustDoAll := func(w impl.World) {
		for _, e := range eachEvent(w) {
			mustDoWorld(t, w, e)
		}
	}
	mustDoAll(okWorld())
	mustDoAll(worldOf(1, 1, 1).world)
	for range 60 {
		mustDoAll(thrownWorld(dice))
	}
	eachWorld(67, 30, 20, mustDoAll)
}

func TestWorldsOnLongWalks(t *testing.T) {
	t.Parallel()
	eachMoment(68, 900, func(m moment) {
		if !sameWorld(m.behind, worldDidByDocument(m.before, m.event)) {
			t.Fatal(m)
		}
		if !worldOkByDocument(m.behind) || !impl.WorldOk(m.behind) {
			t.Fatal(m)
		}
	})
	// Worlds to which no events lead go on by the same rules.
	dice := rand.New(rand.NewPCG(67, 2))
	for walk := range 400 {
		w := thrownWorld(dice)
		for range 30 {
			w = mustDoWorld(t, w, thrownEvent(dice, w, weathers()[walk%6]))
		}
	}
}

// mustKeepForced fails unless what was forced is there still, and forced, at the desk and at all houses.
func mustKeepForced(t *testing.T, before, behind impl.World) {
	t.Helper()
	logs := func(w impl.World) []impl.Log {
		out := []impl.Log{w.Desk.Log}
		for _, h := range w.Houses {
			out = append(out, h.Log)
		}
		return out
	}
	for i, was := range logs(before) {
		is := logs(behind)[i]
		if is.Forced < was.Forced || !slices.EqualFunc(was.Recs[:was.Forced], is.Recs[:was.Forced], sameRec) {
			t.Fatal(before, behind)
		}
	}
}

func TestP67WhatWasForcedStays(t *testing.T) {
	t.Parallel()
	eachMoment(67, 600, func(m moment) {
		if !impl.WorldOk(m.behind) {
			t.Fatal(m)
		}
		mustKeepForced(t, m.before, m.behind)
	})
	dice := rand.New(rand.NewPCG(67, 3))
	for range 40 {
		w := thrownWorld(dice)
		for _, e := range eachEvent(w) {
			behind := impl.WorldDo(w, e)
			if !impl.WorldOk(behind) {
				t.Fatal(w, e, behind)
			}
			mustKeepForced(t, w, behind)
		}
	}
}

// thrownPlay is so many events, drawn as the worlds behind them go on.
func thrownPlay(dice *rand.Rand, rooms []int, n int) []impl.Event {
	var out []impl.Event
	w := worldOf(rooms...).world
	for range n {
		e := thrownEvent(dice, w, weathers()[n%6])
		w, out = impl.WorldDo(w, e), append(out, e)
	}
	return out
}

func TestP68PlayIsOneEventBehindTheOther(t *testing.T) {
	t.Parallel()
	dice := rand.New(rand.NewPCG(68, 2))
	for n := range 81 {
		for range 4 {
			rooms := thrownRooms(dice)
			events := thrownPlay(dice, rooms, n)
			want := worldAnswer{done(worldOf(rooms...).world, events...), true}
			if got := played(rooms, events); !sameWorldAnswer(got, want) {
				t.Fatal(rooms, events, got, want)
			}
		}
	}
}

func TestP68NoEvents(t *testing.T) {
	for _, events := range [][]impl.Event{nil, {}, make([]impl.Event, 0, 200)} {
		if got := played([]int{3, 0, 9}, events); !sameWorldAnswer(got, worldOf(3, 0, 9)) || !got.ok {
			t.Error(got)
		}
	}
}

func TestPlayMaxEventsAndOneMore(t *testing.T) {
	begin, force := evBegin(1, 0, 0), evForce(0)
	for _, n := range []int{1, 2, 14, 40, 79, 80} {
		events := slices.Repeat([]impl.Event{force}, n)
		events[n-1] = begin
		got := played([]int{1, 1, 1}, events)
		if !got.ok || len(got.world.Desk.Log.Recs) != 1 || got.world.Desk.Log.Forced != 0 {
			t.Error(n, got)
		}
	}
	for _, n := range []int{81, 82, 160, 256, 100000} {
		for _, e := range []impl.Event{begin, force, {}, {Kind: 77}} {
			if got := played([]int{1, 1, 1}, slices.Repeat([]impl.Event{e}, n)); got.ok || !isNoWorld(got.world) {
				t.Error(n, e, got)
			}
		}
	}
}

// mustStay fails if an event changes anything.
func mustStay(t *testing.T, w impl.World, e impl.Event) {
	t.Helper()
	if got := impl.WorldDo(w, e); !sameWorld(got, w) {
		t.Fatal(w, e, got)
	}
}

func TestP78WhatThereIsNoneOf(t *testing.T) {
	t.Parallel()
	mustIgnore := func(w impl.World) {
		for _, n := range edgeInts {
			if n < 1 || n > 9 {
				mustStay(t, w, impl.Event{Kind: n, A: 1, B: 1, Many: []int{1, 0, 0}})
				mustStay(t, w, impl.Event{Kind: n})
			}
			if n < 1 || n > len(allTrips(w.Desk)) {
				mustStay(t, w, evGive(n))
			}
			if n < 0 || n >= len(deskWordsByDocument(w.Desk)) {
				mustStay(t, w, evSay(n))
			}
			if n < 0 || n >= len(w.Nets) {
				mustStay(t, w, evBring(n))
				mustStay(t, w, evLose(n))
				mustStay(t, w, evTwice(n))
			}
			if n < 0 || n > 3 {
				mustStay(t, w, evForce(n))
				mustStay(t, w, evFall(n, 0))
				mustStay(t, w, evRise(n))
			}
		}
		for _, many := range badManys() {
			mustStay(t, w, evBegin(many...))
		}
	}
	eachWorld(78, 60, 8, mustIgnore)
	dice := rand.New(rand.NewPCG(78, 1))
	for range 200 {
		mustIgnore(thrownWorld(dice))
	}
	mustIgnore(okWorld())
}

// A trip that was decided, one trip too many, and a desk that is down: nothing changes.
func TestP78WhatTheDeskRefuses(t *testing.T) {
	w := worldOf(3, 3, 3).world
	for trip := 1; trip <= 6; trip++ {
		w = done(w, evBegin(1, 0, 0))
	}
	if got := len(impl.DeskTrips(w.Desk, false)); got != 6 {
		t.Fatal(got)
	}
	mustStay(t, w, evBegin(1, 0, 0))
	for trip := 1; trip <= 6; trip++ {
		w = done(w, evGive(trip))
		mustStay(t, w, evGive(trip))
	}
	still := done(worldOf(3, 3, 3).world, evBegin(1, 0, 0), evForce(0), evFall(0, 0))
	for _, e := range []impl.Event{evBegin(1, 1, 1), evGive(1), evSay(0), evForce(0)} {
		mustStay(t, still, e)
	}
}

// justNets fails unless just what is under way is another list.
func justNets(t *testing.T, before, behind impl.World, nets []impl.Word) {
	t.Helper()
	want := impl.World{Desk: before.Desk, Houses: before.Houses, Nets: nets}
	if !sameWorld(behind, want) {
		t.Fatal(before, behind, nets)
	}
}

func TestP88EvSayPutsOneWordUnderWay(t *testing.T) {
	t.Parallel()
	said := 0
	mustSay := func(w impl.World) {
		for at, word := range impl.DeskWords(w.Desk) {
			nets := w.Nets
			if len(nets) < 14 {
				nets = append(slices.Clone(nets), word)
			}
			justNets(t, w, impl.WorldDo(w, evSay(at)), nets)
			said++
		}
	}
	eachWorld(88, 200, 3, mustSay)
	dice := rand.New(rand.NewPCG(88, 1))
	for range 800 {
		mustSay(thrownWorld(dice))
	}
	if said < 5000 {
		t.Error("hardly any word was said:", said)
	}
}

// crowded is a world with so many words under way, no two neighbours the same; house 1 holds for trip 1, and forced it.
func crowded(n int) impl.World {
	w := worldOf(3, 3, 3).world
	w.Desk = deskWith(1, nil, beginRec(1, 1, 2, 3))
	w.Houses[0] = houseWith(1, 3, 1, holdRec(1, 1))
	words := slices.Concat(wordsTo(1, 1), wordsTo(2, 2))
	w.Nets = words[:n]
	return w
}

func TestWordsUnderWayAtTheirLimit(t *testing.T) {
	for n := range 15 {
		w := crowded(n)
		room := n < 14
		for at, word := range impl.DeskWords(w.Desk) {
			nets := w.Nets
			if room {
				nets = append(slices.Clone(nets), word)
			}
			justNets(t, w, impl.WorldDo(w, evSay(at)), nets)
		}
		for at, word := range w.Nets {
			nets := w.Nets
			if room {
				nets = append(slices.Clone(nets), word)
			}
			justNets(t, w, impl.WorldDo(w, evTwice(at)), nets)
			justNets(t, w, impl.WorldDo(w, evLose(at)), slices.Delete(slices.Clone(w.Nets), at, at+1))
		}
	}
}

// A word that is brought makes room for its answer, however many are under way.
func TestAnAnswerHasRoomAlways(t *testing.T) {
	for n := 1; n <= 14; n++ {
		w := crowded(n)
		for at := range min(n, 3) {
			nets := append(slices.Delete(slices.Clone(w.Nets), at, at+1), heldBy(1, 1))
			justNets(t, w, impl.WorldDo(w, evBring(at)), nets)
		}
	}
}

// Brought to who is down a word goes, and is heard by nobody.
func TestWordsBroughtToWhoIsDown(t *testing.T) {
	for n := 1; n <= 14; n++ {
		w := crowded(n)
		w.Desk = down(w.Desk)
		for i := range w.Houses {
			w.Houses[i].Up = false
		}
		for at := range n {
			justNets(t, w, impl.WorldDo(w, evBring(at)), slices.Delete(slices.Clone(w.Nets), at, at+1))
		}
	}
}

func TestP89JustOneIsForcedFallsOrRises(t *testing.T) {
	t.Parallel()
	mustTouchOne := func(w impl.World) {
		for who := range 4 {
			for _, e := range []impl.Event{evForce(who), evFall(who, -1), evFall(who, 0), evFall(who, 1), evFall(who, 40), evRise(who)} {
				got := impl.WorldDo(w, e)
				if !slices.Equal(got.Nets, w.Nets) || who != 0 && !sameDesk(got.Desk, w.Desk) {
					t.Fatal(w, e, got)
				}
				for i, h := range w.Houses {
					if who != i+1 && !sameHouse(got.Houses[i], h) {
						t.Fatal(w, e, got)
					}
				}
				mustBecome(t, w, e, got)
			}
		}
	}
	eachWorld(89, 150, 7, mustTouchOne)
	dice := rand.New(rand.NewPCG(89, 1))
	for range 300 {
		mustTouchOne(thrownWorld(dice))
	}
}

// mustBecome fails unless who is forced, falls, or rises, is as the functions of its own say.
func mustBecome(t *testing.T, w impl.World, e impl.Event, got impl.World) {
	t.Helper()
	if e.A == 0 {
		want := map[int]impl.Desk{7: impl.DeskForce(w.Desk), 8: impl.DeskFall(w.Desk, e.B), 9: impl.DeskRise(w.Desk)}[e.Kind]
		if !sameDesk(got.Desk, want) {
			t.Fatal(w, e, got)
		}
		return
	}
	h := w.Houses[e.A-1]
	want := map[int]impl.House{7: impl.HouseForce(h), 8: impl.HouseFall(h, e.B), 9: impl.HouseRise(h)}[e.Kind]
	if !sameHouse(got.Houses[e.A-1], want) {
		t.Fatal(w, e, got)
	}
}

func TestP90EvBeginBeginsTheNextTrip(t *testing.T) {
	t.Parallel()
	begun := 0
	mustBegin := func(w impl.World) {
		list := impl.DeskTrips(w.Desk, false)
		for _, many := range wanted() {
			got := impl.WorldDo(w, evBegin(many...))
			if !w.Desk.Up || len(list) == 6 {
				if !sameWorld(got, w) {
					t.Fatal(w, many, got)
				}
				continue
			}
			begun++
			want := append(slices.Clone(list), impl.Trip{Many: many, State: impl.TripAsked})
			if !sameTrips(impl.DeskTrips(got.Desk, false), want) || !sameTrips(impl.DeskTrips(got.Desk, true), impl.DeskTrips(w.Desk, true)) {
				t.Fatal(w, many, got)
			}
			if !slices.Equal(got.Desk.Told, w.Desk.Told) || !slices.EqualFunc(got.Houses, w.Houses, sameHouse) || !slices.Equal(got.Nets, w.Nets) {
				t.Fatal(w, many, got)
			}
		}
	}
	eachWorld(90, 60, 10, mustBegin)
	dice := rand.New(rand.NewPCG(90, 1))
	for range 100 {
		mustBegin(thrownWorld(dice))
	}
	if begun < 10000 {
		t.Error("hardly any trip was begun:", begun)
	}
}

func TestP80BroughtTwiceIsBroughtOnce(t *testing.T) {
	t.Parallel()
	count := 0
	mustBeOne := func(w impl.World) {
		n := len(w.Nets)
		if n == 14 {
			return
		}
		for at := range n {
			once := done(w, evBring(at))
			// The second one stands behind all that were there, the first one being gone.
			twice := done(w, evTwice(at), evBring(at), evBring(n-1))
			if !sameDesk(once.Desk, twice.Desk) || !slices.EqualFunc(once.Houses, twice.Houses, sameHouse) {
				t.Fatal(w, at, once, twice)
			}
			if !slices.Equal(once.Nets[:n-1], twice.Nets[:n-1]) {
				t.Fatal(w, at, once, twice)
			}
			count++
		}
	}
	eachWorld(80, 400, 3, mustBeOne)
	dice := rand.New(rand.NewPCG(80, 1))
	for range 500 {
		mustBeOne(thrownWorld(dice))
	}
	if count < 10000 {
		t.Error("hardly any word was doubled:", count)
	}
}

// Numbers that an event's kind has no use for do not count.
func TestNumbersThatDoNotCount(t *testing.T) {
	t.Parallel()
	eachWorld(78, 12, 16, func(w impl.World) {
		for _, n := range edgeInts {
			many := []int{1, 2, n}
			for _, pair := range [][2]impl.Event{
				{evBegin(1, 0, 1), {Kind: 1, A: n, B: n, Many: []int{1, 0, 1}}},
				{evGive(1), {Kind: 2, A: 1, B: n, Many: many}},
				{evSay(1), {Kind: 3, A: 1, B: n, Many: many}},
				{evBring(0), {Kind: 4, B: n, Many: many}},
				{evLose(0), {Kind: 5, B: n, Many: many}},
				{evTwice(0), {Kind: 6, B: n, Many: many}},
				{evForce(1), {Kind: 7, A: 1, B: n, Many: many}},
				{evFall(2, 1), {Kind: 8, A: 2, B: 1, Many: many}},
				{evRise(0), {Kind: 9, B: n, Many: many}},
			} {
				if one, other := impl.WorldDo(w, pair[0]), impl.WorldDo(w, pair[1]); !sameWorld(one, other) {
					t.Fatal(w, pair, one, other)
				}
			}
		}
	})
}
