package tests

import (
	"math/rand/v2"
	"runtime"
	"slices"
	"sync"
	"testing"
	"time"

	"loop.example/concierge/impl"
)

// worldSpans looks behind the ends of all lists of a world too.
func worldSpans(w impl.World) []span {
	out := append(deskSpans(w.Desk), spanOf(w.Houses), spanOf(w.Nets))
	for _, h := range w.Houses[:cap(w.Houses)] {
		out = append(out, logSpans(h.Log)...)
	}
	return out
}

// roomyWorld is the world, with room behind all its lists in which others stand.
func roomyWorld(w impl.World) impl.World {
	houses := make([]impl.House, 0, len(w.Houses)+2)
	for _, h := range w.Houses {
		houses = append(houses, roomyHouse(h))
	}
	copy(houses[len(houses):cap(houses)], []impl.House{roomyHouse(houseWith(4, 1, 1, holdRec(1, 1))), {Id: -31, Room: -32}})
	nets := append(make([]impl.Word, 0, len(w.Nets)+3), w.Nets...)
	copy(nets[len(nets):cap(nets)], []impl.Word{heldBy(1, 1), {Kind: 1, House: 2, Trip: 1, Many: 1}, {Kind: -21, House: -22, Trip: -23, Many: -24}})
	return impl.World{Desk: roomyDesk(w.Desk), Houses: houses, Nets: nets}
}

// worldInts is all numbers of a world, those in its spare room too.
func worldInts(w impl.World) []int {
	truth := map[bool]int{true: 1}
	out := append(deskInts(w.Desk), truth[w.Desk.Up], len(w.Houses), cap(w.Houses), len(w.Nets), cap(w.Nets))
	for _, h := range w.Houses[:cap(w.Houses)] {
		out = append(append(out, h.Id, truth[h.Up], h.Room), allInts(h.Log)...)
	}
	for _, word := range w.Nets[:cap(w.Nets)] {
		out = append(out, word.Kind, word.House, word.Trip, word.Many)
	}
	return out
}

// mustStayWorld fails if a call writes into its world, or answers memory of it, or of another list of the answer, or something else than without the spare room.
func mustStayWorld(t *testing.T, w impl.World, call func(w impl.World) impl.World) {
	t.Helper()
	given := roomyWorld(w)
	before := worldInts(given)
	got := call(given)
	if !slices.Equal(worldInts(given), before) {
		t.Fatal("an argument is another one", w)
	}
	mustBeApart(t, worldSpans(got), worldSpans(given))
	if !sameWorld(got, call(w)) {
		t.Fatal("spare room counts", w)
	}
}

// memoryWorlds is worlds, ok and not, but for those that are too large to be copied often.
func memoryWorlds() []impl.World {
	out := []impl.World{okWorld(), fallen(okWorld()), worldOf(1, 2, 3).world, crowded(14)}
	dice := rand.New(rand.NewPCG(21, 7))
	for range 25 {
		out = append(out, thrownWorld(dice))
	}
	eachWorld(21, 12, 27, func(w impl.World) { out = append(out, w) })
	bad := badWorlds()
	for i := 0; i < len(bad); i += 29 {
		if len(worldInts(bad[i])) < 2000 {
			out = append(out, bad[i])
		}
	}
	return out
}

func TestWorldsAreNewMemory(t *testing.T) {
	t.Parallel()
	for _, w := range memoryWorlds() {
		for kind := range 11 {
			for _, a := range []int{-1, 0, 1, 2, 3, 6, 13, 14} {
				e := impl.Event{Kind: kind, A: a, B: a / 2, Many: []int{1, 0, 2}}
				mustStayWorld(t, w, func(w impl.World) impl.World { return impl.WorldDo(w, e) })
			}
		}
		for _, rounds := range []int{-1, 0, 1, 2, 9, 10} {
			mustStayWorld(t, w, func(w impl.World) impl.World { return impl.WorldCalm(w, rounds) })
		}
	}
}

func TestHoldsOfWorldsAreNewMemory(t *testing.T) {
	t.Parallel()
	for _, w := range memoryWorlds() {
		mustStayWorld(t, w, func(w impl.World) impl.World {
			impl.WorldOk(w)
			var answers []span
			for trip := range 8 {
				answers = append(answers, spanOf(impl.WorldHolds(w, trip)))
			}
			mustBeApart(t, answers, worldSpans(w))
			return impl.World{}
		})
		if roomy := roomyWorld(w); impl.WorldOk(roomy) != impl.WorldOk(w) || !slices.Equal(impl.WorldHolds(roomy, 2), impl.WorldHolds(w, 2)) {
			t.Fatal("spare room counts", w)
		}
	}
}

// roomyNumbers is the list, with room behind it in which others stand.
func roomyNumbers(list []int) []int {
	return append(append(make([]int, 0, len(list)+3), list...), -41, 1, -42)[:len(list)]
}

// mustBeRoomy fails if a list, or what stands behind its end, is another one than roomyNumbers made.
func mustBeRoomy(t *testing.T, list, want []int) {
	t.Helper()
	if !slices.Equal(list[:cap(list)], slices.Concat(want, []int{-41, 1, -42})) {
		t.Fatal("an argument is another one", list[:cap(list)])
	}
}

func TestWhatAnEventWantsIsNotKept(t *testing.T) {
	t.Parallel()
	for _, w := range memoryWorlds() {
		for _, many := range [][]int{{1, 0, 3}, {3, 3, 3}, {0, 0, 0}, {1, 1}, {1, 1, 1, 1}, {}} {
			for kind := range 10 {
				given := roomyNumbers(many)
				got := impl.WorldDo(w, impl.Event{Kind: kind, Many: given})
				mustBeApart(t, worldSpans(got), []span{spanOf(given)})
				mustBeRoomy(t, given, many)
				if !sameWorld(got, impl.WorldDo(w, impl.Event{Kind: kind, Many: many})) {
					t.Fatal("spare room counts", w, many)
				}
			}
		}
	}
}

// One list of what is wanted, in several events of a play, is so many lists in its world.
func TestPlaysAreNewMemory(t *testing.T) {
	rooms, many := roomyNumbers([]int{3, 2, 1}), roomyNumbers([]int{1, 0, 1})
	begin := impl.Event{Kind: impl.EvBegin, Many: many}
	events := append(make([]impl.Event, 0, 90), begin, begin, evForce(0), evSay(0), begin, evBring(0), evForce(1), evSay(1), evGive(2))
	n := len(events)
	copy(events[n:90], []impl.Event{{Kind: 5, A: 5, B: 5, Many: many}, {Kind: -5, A: -6, B: -7}})
	for most := range n + 1 {
		got := played(rooms, events[:most])
		other := played(rooms, events[:most])
		spans := append(worldSpans(got.world), worldSpans(other.world)...)
		mustBeApart(t, spans, []span{spanOf(rooms), spanOf(many), spanOf(events)})
		if !sameWorldAnswer(got, played(slices.Clone(rooms), slices.Clone(events[:most]))) || !got.ok {
			t.Fatal(most, got)
		}
	}
	mustBeRoomy(t, rooms, []int{3, 2, 1})
	mustBeRoomy(t, many, []int{1, 0, 1})
	if all := events[:n+2]; all[n].Kind != 5 || all[n+1].Kind != -5 || all[n+1].B != -7 || all[0].Kind != 1 || all[n-1].A != 2 {
		t.Error(all)
	}
	first, _ := impl.WorldNew(rooms)
	mustBeApart(t, worldSpans(first), []span{spanOf(rooms)})
}

// One list in several parts of an argument must be so many lists in the answer.
func TestListsThatAWorldSharesAreApartInAnswers(t *testing.T) {
	many := []int{1, 9, 9}[:1]
	recs := []impl.Rec{{Kind: impl.RecHold, Trip: 1, Many: many}, {Kind: impl.RecHold, Trip: 2, Many: many}, {}}[:2]
	words := []impl.Word{heldBy(1, 1), heldBy(2, 1), {}}[:2]
	w := impl.World{Desk: deskWith(1, words, beginRec(1, 1, 1, 0)), Nets: words}
	for id := 1; id <= 3; id++ {
		w.Houses = append(w.Houses, houseWith(id, 3, 1, recs...))
		w.Houses[id-1].Log.Recs = recs
	}
	shared := append(worldSpans(w), spanOf(many))
	var answers []impl.World
	for _, e := range someEvents() {
		answers = append(answers, impl.WorldDo(w, e))
	}
	for rounds := range 10 {
		answers = append(answers, impl.WorldCalm(w, rounds))
	}
	for _, got := range answers {
		if isNoWorld(got) {
			t.Error(got)
		}
		mustBeApart(t, worldSpans(got), shared)
	}
	if !slices.Equal(many[:3], []int{1, 9, 9}) || !isNoRec(recs[:3][2]) || words[:3][2] != (impl.Word{}) {
		t.Error(many[:3], recs[:3], words[:3])
	}
}

// Two worlds behind one, with room behind its words, must not write into each other.
func TestTwoWorldsBehindOneAreApart(t *testing.T) {
	w := roomyWorld(crowded(4))
	one, two := impl.WorldDo(w, evSay(1)), impl.WorldDo(w, evSay(2))
	mustBeApart(t, slices.Concat(worldSpans(one), worldSpans(two)), worldSpans(w))
	if one.Nets[4].House != 2 || two.Nets[4].House != 3 {
		t.Error(one, two)
	}
}

// emptiedWorld is the world, each list of nothing being another kind of nothing.
func emptiedWorld(w impl.World) impl.World {
	out := impl.World{Desk: emptied(w.Desk), Houses: []impl.House{}, Nets: append([]impl.Word{}, w.Nets...)}
	for _, h := range w.Houses {
		h.Log = emptied(impl.Desk{Log: h.Log}).Log
		out.Houses = append(out.Houses, h)
	}
	return out
}

func TestNilAndEmptyListsAreOneValueInWorlds(t *testing.T) {
	t.Parallel()
	for _, w := range memoryWorlds() {
		other := emptiedWorld(w)
		if impl.WorldOk(w) != impl.WorldOk(other) {
			t.Fatal(w)
		}
		for kind := range 11 {
			for a := -1; a <= 4; a++ {
				one, two := impl.Event{Kind: kind, A: a}, impl.Event{Kind: kind, A: a, Many: []int{}}
				if !sameWorld(impl.WorldDo(w, one), impl.WorldDo(other, two)) {
					t.Fatal(w, one)
				}
			}
		}
		for rounds := range 10 {
			if !sameWorld(impl.WorldCalm(w, rounds), impl.WorldCalm(other, rounds)) {
				t.Fatal(w, rounds)
			}
		}
		for trip := range 8 {
			if !slices.Equal(impl.WorldHolds(w, trip), impl.WorldHolds(other, trip)) {
				t.Fatal(w, trip)
			}
		}
	}
	if !sameWorldAnswer(played([]int{1, 1, 1}, nil), played([]int{1, 1, 1}, []impl.Event{})) || !sameWorldAnswer(played(nil, nil), played([]int{}, nil)) {
		t.Error("a play of nothing")
	}
	if !sameWorldAnswer(worldOf(), worldAnswer{}) {
		t.Error(worldOf())
	}
}

// Whatever runs first, and on however many processors, each house is forced, in its own place.
func TestCalmIsTheSameAtEachRun(t *testing.T) {
	defer runtime.GOMAXPROCS(runtime.GOMAXPROCS(0))
	for _, processors := range []int{1, 2, 3, 8} {
		runtime.GOMAXPROCS(processors)
		dice := rand.New(rand.NewPCG(21, 8))
		for range 40 {
			w := thrownWorld(dice)
			one, nine := calmedByDocument(w, 1), calmedByDocument(w, 9)
			for range 25 {
				if got := impl.WorldCalm(w, 1); !sameWorld(got, one) {
					t.Fatal(w, got)
				}
			}
			if got := impl.WorldCalm(w, 9); !sameWorld(got, nine) {
				t.Fatal(w, got)
			}
		}
	}
}

// mustLeaveNobody fails if, when all others had their turn, more run than before.
func mustLeaveNobody(t *testing.T, before int) {
	t.Helper()
	for end := time.Now().Add(20 * time.Second); runtime.NumGoroutine() > before && time.Now().Before(end); {
		time.Sleep(time.Millisecond)
	}
	if now := runtime.NumGoroutine(); now > before {
		t.Error("some are left:", before, now)
	}
}

// What was answered stays as it is, and nobody of those who forced is left, when all others had their turn.
func TestACalmJoinsAllThatItLetsRun(t *testing.T) {
	before := runtime.NumGoroutine()
	w := okWorld()
	want := calmedByDocument(w, 9)
	var answers []impl.World
	for range 300 {
		answers = append(answers, impl.WorldCalm(w, 9))
	}
	mustLeaveNobody(t, before)
	for _, got := range answers {
		if !sameWorld(got, want) {
			t.Fatal(got)
		}
	}
}

// Many ask at once, of one world, and nobody is in another one's way.
func TestManyAskAtOnce(t *testing.T) {
	t.Parallel()
	w := roomyWorld(okWorld())
	before, end, behind := worldInts(w), calmedByDocument(w, 9), worldDidByDocument(w, evBring(0))
	var asking sync.WaitGroup
	var answers [16]impl.World
	for i := range answers {
		asking.Add(1)
		go func() {
			defer asking.Done()
			for range 20 {
				answers[i] = impl.WorldCalm(w, 9)
				if i%2 == 1 {
					answers[i] = impl.WorldDo(w, evBring(0))
				}
			}
		}()
	}
	asking.Wait()
	for i, got := range answers {
		if want := []impl.World{end, behind}[i%2]; !sameWorld(got, want) {
			t.Error(i, got)
		}
	}
	if !slices.Equal(worldInts(w), before) {
		t.Error("an argument is another one")
	}
}
