package tests

import (
	"math"
	"math/rand/v2"
	"slices"
	"testing"

	"loop.example/concierge/impl"
)

// worldAnswer is what WorldNew, or WorldPlay, answers.
type worldAnswer struct {
	world impl.World
	ok    bool
}

func worldOf(rooms ...int) worldAnswer {
	w, ok := impl.WorldNew(rooms)
	return worldAnswer{w, ok}
}

func played(rooms []int, events []impl.Event) worldAnswer {
	w, ok := impl.WorldPlay(rooms, events)
	return worldAnswer{w, ok}
}

func sameWorld(a, b impl.World) bool {
	return sameDesk(a.Desk, b.Desk) && slices.EqualFunc(a.Houses, b.Houses, sameHouse) && slices.Equal(a.Nets, b.Nets)
}

func sameWorldAnswer(a, b worldAnswer) bool {
	return a.ok == b.ok && sameWorld(a.world, b.world)
}

func isNoWorld(w impl.World) bool {
	return sameWorld(w, impl.World{})
}

// Events, by their names in the document.
func evBegin(many ...int) impl.Event { return impl.Event{Kind: 1, Many: many} }
func evGive(trip int) impl.Event     { return impl.Event{Kind: 2, A: trip} }
func evSay(at int) impl.Event        { return impl.Event{Kind: 3, A: at} }
func evBring(at int) impl.Event      { return impl.Event{Kind: 4, A: at} }
func evLose(at int) impl.Event       { return impl.Event{Kind: 5, A: at} }
func evTwice(at int) impl.Event      { return impl.Event{Kind: 6, A: at} }
func evForce(who int) impl.Event     { return impl.Event{Kind: 7, A: who} }
func evFall(who, keep int) impl.Event {
	return impl.Event{Kind: 8, A: who, B: keep}
}
func evRise(who int) impl.Event { return impl.Event{Kind: 9, A: who} }

// done is a world behind these events.
func done(w impl.World, events ...impl.Event) impl.World {
	for _, e := range events {
		w = impl.WorldDo(w, e)
	}
	return w
}

// worldOkByDocument says once more what the document does, with its numbers written out.
func worldOkByDocument(w impl.World) bool {
	if !deskOkByDocument(w.Desk) || len(w.Houses) != 3 || len(w.Nets) > 14 {
		return false
	}
	for i, h := range w.Houses {
		if h.Id != i+1 || !houseOkByDocument(h) {
			return false
		}
	}
	return !slices.ContainsFunc(w.Nets, func(w impl.Word) bool { return !wordOkByDocument(w) })
}

func houseForcedByDocument(h impl.House) impl.House {
	if h.Up {
		h.Log.Forced = len(h.Log.Recs)
	}
	return h
}

func houseFellByDocument(h impl.House, keep int) impl.House {
	left := leftOf(len(h.Log.Recs), h.Log.Forced, keep)
	return impl.House{Id: h.Id, Room: h.Room, Log: impl.Log{Recs: h.Log.Recs[:left], Forced: left}}
}

func houseRoseByDocument(h impl.House) impl.House {
	h.Up = true
	return h
}

func deskForcedByDocument(d impl.Desk) impl.Desk {
	if d.Up {
		d.Log.Forced = len(d.Log.Recs)
	}
	return d
}

func deskRoseByDocument(d impl.Desk) impl.Desk {
	d.Up = true
	return d
}

// worldDidByDocument is of an ok world.
func worldDidByDocument(w impl.World, e impl.Event) impl.World {
	w.Houses, w.Nets = slices.Clone(w.Houses), slices.Clone(w.Nets)
	switch e.Kind {
	case 1, 2:
		w.Desk = askedByDocument(w.Desk, e)
	case 3:
		w.Nets = moreUnderWay(w.Nets, wordAt(deskWordsByDocument(w.Desk), e.A))
	case 4, 5:
		gone := wordAt(w.Nets, e.A)
		if len(gone) == 1 {
			w.Nets = slices.Delete(w.Nets, e.A, e.A+1)
		}
		if e.Kind == 4 && len(gone) == 1 {
			behind, answer := heardByDocument(w, gone[0])
			behind.Nets = moreUnderWay(behind.Nets, answer)
			return behind
		}
	case 6:
		w.Nets = moreUnderWay(w.Nets, wordAt(w.Nets, e.A))
	case 7, 8, 9:
		return oneByDocument(w, e)
	}
	return w
}

func askedByDocument(d impl.Desk, e impl.Event) impl.Desk {
	answer := givenByDocument(d, e.A)
	if e.Kind == 1 {
		answer = begunByDocument(d, e.Many)
	}
	if answer.ok {
		return answer.desk
	}
	return d
}

// wordAt is the word at this place, or none.
func wordAt(words []impl.Word, at int) []impl.Word {
	if at < 0 || at > len(words)-1 {
		return nil
	}
	return []impl.Word{words[at]}
}

func moreUnderWay(nets, more []impl.Word) []impl.Word {
	for _, w := range more {
		if len(nets) < 14 {
			nets = append(nets, w)
		}
	}
	return nets
}

// heardByDocument is the world behind a word that is heard, and what is answered, or nothing.
func heardByDocument(w impl.World, word impl.Word) (impl.World, []impl.Word) {
	if word.Kind > 3 {
		w.Desk = deskHeardByDocument(w.Desk, word)
		return w, nil
	}
	w.Houses = slices.Clone(w.Houses)
	h := hearByDocument(w.Houses[word.House-1], word)
	w.Houses[word.House-1] = h.house
	if h.ok {
		return w, []impl.Word{h.word}
	}
	return w, nil
}

// oneByDocument is the world behind a force, a fall, or a rise, of the desk, or of one house.
func oneByDocument(w impl.World, e impl.Event) impl.World {
	desk := []impl.Desk{deskForcedByDocument(w.Desk), deskFellByDocument(w.Desk, e.B), deskRoseByDocument(w.Desk)}
	if e.A == 0 {
		w.Desk = desk[e.Kind-7]
	}
	for i, h := range w.Houses {
		house := []impl.House{houseForcedByDocument(h), houseFellByDocument(h, e.B), houseRoseByDocument(h)}
		if e.A == i+1 {
			w.Houses[i] = house[e.Kind-7]
		}
	}
	return w
}

// calmedByDocument is of an ok world.
func calmedByDocument(w impl.World, rounds int) impl.World {
	for range rounds {
		w.Houses = slices.Clone(w.Houses)
		w.Desk = deskRoseByDocument(w.Desk)
		for i, h := range w.Houses {
			w.Houses[i] = houseRoseByDocument(h)
		}
		words := slices.Concat(w.Nets, deskWordsByDocument(w.Desk))
		for _, word := range words {
			var answer []impl.Word
			if w, answer = heardByDocument(w, word); len(answer) == 1 {
				w.Desk = deskHeardByDocument(w.Desk, answer[0])
			}
		}
		w.Nets, w.Desk = nil, deskForcedByDocument(w.Desk)
		for i, h := range w.Houses {
			w.Houses[i] = houseForcedByDocument(h)
		}
	}
	return w
}

// mustDoWorld holds WorldDo of an ok world against the document.
func mustDoWorld(t *testing.T, w impl.World, e impl.Event) impl.World {
	t.Helper()
	got := impl.WorldDo(w, e)
	if want := worldDidByDocument(w, e); !sameWorld(got, want) {
		t.Fatal(w, e, got, want)
	}
	return got
}

// tripsHeldAt is of each house what a trip has there, by all that was written down.
func tripsHeldAt(w impl.World, trip int) []impl.Hold {
	var out []impl.Hold
	for _, h := range w.Houses {
		s, _ := stockOfByDocument(h.Room, h.Log.Recs)
		out = append(out, s.Holds[trip-1])
	}
	return out
}

// statesOf is the states of holds.
func statesOf(holds []impl.Hold) []int {
	var out []int
	for _, h := range holds {
		out = append(out, h.State)
	}
	return out
}

// weather is how often of a hundred times each kind of event comes, kind by kind; else comes one by which a trip goes on, or, if it is odd, one that may be wrong.
type weather struct {
	kinds [10]int
	odd   int
}

// weathers is: steady, stormy, words lost and doubled, words that crowd, all of it even, and much that is wrong.
func weathers() []weather {
	return []weather{
		{kinds: [10]int{0, 2, 0, 2, 4, 1, 1, 4, 1, 0}},
		{kinds: [10]int{0, 3, 1, 2, 6, 1, 2, 6, 8, 3}, odd: 1},
		{kinds: [10]int{0, 2, 1, 6, 6, 8, 14, 2, 1, 1}, odd: 1},
		{kinds: [10]int{0, 3, 1, 30, 6, 1, 22, 4, 1, 1}, odd: 1},
		{kinds: [10]int{0, 10, 10, 10, 10, 10, 10, 20, 10, 10}},
		{kinds: [10]int{0, 2, 1, 6, 6, 2, 6, 4, 3, 2}, odd: 20},
	}
}

// thrownEvent is an event, as the dice fall, mostly one that can be in this world.
func thrownEvent(dice *rand.Rand, w impl.World, sky weather) impl.Event {
	at := dice.IntN(100)
	for kind, n := range sky.kinds {
		if at -= n; at < 0 {
			return eventOfKind(dice, w, kind)
		}
	}
	if at < sky.odd {
		return oddEvent(dice)
	}
	useful := usefulEvents(w)
	if len(useful) == 0 {
		return evBegin(thrownMany(dice)...)
	}
	return useful[dice.IntN(len(useful))]
}

func eventOfKind(dice *rand.Rand, w impl.World, kind int) impl.Event {
	e := impl.Event{Kind: kind}
	switch kind {
	case 1:
		e.Many = thrownMany(dice)
	case 2:
		e.A = 1 + dice.IntN(6)
	case 3:
		e.A = dice.IntN(1 + len(deskWordsByDocument(w.Desk)))
	case 4, 5, 6:
		e.A = dice.IntN(max(1, len(w.Nets)))
	case 7, 8, 9:
		e.A, e.B = dice.IntN(4), dice.IntN(4)
	}
	return e
}

// usefulEvents is what lets trips go on.
func usefulEvents(w impl.World) []impl.Event {
	var out []impl.Event
	for at := range w.Nets {
		out = append(out, evBring(at))
	}
	for at, word := range deskWordsByDocument(w.Desk) {
		if !slices.Contains(w.Nets, word) {
			out = append(out, evSay(at))
		}
	}
	logs, up := []impl.Log{w.Desk.Log}, []bool{w.Desk.Up}
	for _, h := range w.Houses {
		logs, up = append(logs, h.Log), append(up, h.Up)
	}
	for who, l := range logs {
		switch {
		case !up[who]:
			out = append(out, evRise(who))
		case l.Forced < len(l.Recs):
			out = append(out, evForce(who))
		}
	}
	return out
}

// thrownMany is what is wanted: little, of few houses, so that trips come to an end; at times anything.
func thrownMany(dice *rand.Rand) []int {
	if dice.IntN(4) == 0 {
		return slices.Clone(wanted()[dice.IntN(63)])
	}
	many := make([]int, 3)
	for range 1 + dice.IntN(2) {
		many[dice.IntN(3)] = 1
	}
	return many
}

// oddEvent is any event, at most of which there is something wrong.
func oddEvent(dice *rand.Rand) impl.Event {
	number := func() int { return edgeInts[dice.IntN(len(edgeInts))] }
	manys := append(badManys(), []int{1, 0, 2})
	return impl.Event{Kind: dice.IntN(12) - 1, A: number(), B: number(), Many: manys[dice.IntN(len(manys))]}
}

// badManys is what no trip can want.
func badManys() [][]int {
	out := [][]int{nil, {}, {0, 0, 0}, {1}, {1, 1}, {0, 0}, {1, 1, 1, 1}, {1, 1, 1, 0}}
	for place := range 3 {
		for _, n := range []int{math.MinInt, -1, 4, 256, 257, math.MaxInt} {
			many := []int{1, 2, 3}
			many[place] = n
			out = append(out, many)
		}
	}
	return out
}

// thrownRooms is rooms, mostly few.
func thrownRooms(dice *rand.Rand) []int {
	rooms := make([]int, 3)
	for i := range rooms {
		rooms[i] = dice.IntN(4)
		if dice.IntN(3) == 0 {
			rooms[i] = dice.IntN(10)
		}
	}
	return rooms
}

// moment is an event of a play, the world ahead of it, and behind it.
type moment struct {
	rooms  []int
	at     int
	event  impl.Event
	before impl.World
	behind impl.World
}

// eachMoment calls f with each event of so many plays of PlayMax events each, drawn from a seed; calls of the same seed are of the same plays.
func eachMoment(seed uint64, plays int, f func(m moment)) {
	eachMomentOf(seed, plays, func(e impl.Event) impl.Event { return e }, f)
}

// eachMomentOf is eachMoment, another event coming in the place of each.
func eachMomentOf(seed uint64, plays int, other func(e impl.Event) impl.Event, f func(m moment)) {
	dice := rand.New(rand.NewPCG(seed, 2195))
	skies := weathers()
	for play := range plays {
		sky, rooms := skies[play%len(skies)], thrownRooms(dice)
		w := worldOf(rooms...).world
		for at := range 80 {
			e := other(thrownEvent(dice, w, sky))
			behind := impl.WorldDo(w, e)
			f(moment{rooms: rooms, at: at, event: e, before: w, behind: behind})
			w = behind
		}
	}
}

// eachWorld calls f with each nth world of such plays, the last one of each play among them.
func eachWorld(seed uint64, plays, nth int, f func(w impl.World)) {
	eachMoment(seed, plays, func(m moment) {
		if (80-m.at)%nth == 1%nth {
			f(m.behind)
		}
	})
}

// thrownWorld is an ok world, as the dice fall, such as no events may lead to.
func thrownWorld(dice *rand.Rand) impl.World {
	w := impl.World{Desk: thrownDesk(dice)}
	if dice.IntN(4) == 0 {
		w.Desk = down(w.Desk)
	}
	for id := 1; id <= 3; id++ {
		room := dice.IntN(10)
		recs := thrownRecs(dice, room)
		h := houseWith(id, room, dice.IntN(len(recs)+1), recs...)
		h.Up = dice.IntN(4) > 0
		w.Houses = append(w.Houses, h)
	}
	for range dice.IntN(15) {
		words := wordsTo(1+dice.IntN(3), 1+dice.IntN(6))
		w.Nets = append(w.Nets, words[dice.IntN(len(words))])
	}
	return w
}
