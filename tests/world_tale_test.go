package tests

import (
	"slices"
	"strings"
	"testing"

	"loop.example/concierge/impl"
)

// tell is a world as one line: records of the desk, and of each house, those behind "/" not forced, "down" ahead, if it is; what was told, and what is under way.
func tell(w impl.World) string {
	logText := func(up bool, l impl.Log) string {
		var texts []string
		for i, r := range l.Recs {
			if i == l.Forced {
				texts = append(texts, "/")
			}
			texts = append(texts, impl.RecText(r))
		}
		if !up {
			texts = append([]string{"down"}, texts...)
		}
		return strings.Join(texts, ", ")
	}
	parts := []string{"desk: " + logText(w.Desk.Up, w.Desk.Log)}
	for i, h := range w.Houses {
		parts = append(parts, []string{"one", "two", "three"}[i]+": "+logText(h.Up, h.Log))
	}
	parts = append(parts, "told: "+strings.Join(textsOf(w.Desk.Told), ", "), "net: "+strings.Join(textsOf(w.Nets), ", "))
	// What has nothing to tell is left out.
	parts = slices.DeleteFunc(parts, func(p string) bool { return strings.HasSuffix(p, ": ") })
	return strings.Join(parts, " | ")
}

// step is an event, and the world behind it, told.
type step struct {
	event impl.Event
	told  string
}

// mustGoSo lets a tale's events happen, and holds each world against what is told; the tale's last world.
func mustGoSo(t *testing.T, rooms []int, steps []step) impl.World {
	t.Helper()
	w := worldOf(rooms...).world
	for i, s := range steps {
		w = impl.WorldDo(w, s.event)
		if got := tell(w); got != s.told {
			t.Fatalf("step %d, %v:\n%s\n%s", i, s.event, got, s.told)
		}
		if fault := faultOf(w, rooms); fault != 0 {
			t.Fatal("promise", fault, i, w)
		}
	}
	return w
}

// A trip of two houses, its words out of turn, to its end.
func TestTaleOfATripThatIsKept(t *testing.T) {
	mustGoSo(t, []int{2, 1, 0}, []step{
		{evBegin(1, 1, 0), "desk: /, begin 1 1 1 0"},
		{evSay(0), "desk: /, begin 1 1 1 0"},
		{evForce(0), "desk: begin 1 1 1 0"},
		{evSay(0), "desk: begin 1 1 1 0 | net: hold 1 1 1"},
		{evSay(1), "desk: begin 1 1 1 0 | net: hold 1 1 1, hold 2 1 1"},
		{evBring(1), "desk: begin 1 1 1 0 | two: /, hold 1 1 | net: hold 1 1 1"},
		{evBring(0), "desk: begin 1 1 1 0 | one: /, hold 1 1 | two: /, hold 1 1"},
		{evSay(1), "desk: begin 1 1 1 0 | one: /, hold 1 1 | two: /, hold 1 1 | net: hold 2 1 1"},
		{evBring(0), "desk: begin 1 1 1 0 | one: /, hold 1 1 | two: /, hold 1 1"},
		{evForce(2), "desk: begin 1 1 1 0 | one: /, hold 1 1 | two: hold 1 1"},
		{evForce(1), "desk: begin 1 1 1 0 | one: hold 1 1 | two: hold 1 1"},
		{evSay(1), "desk: begin 1 1 1 0 | one: hold 1 1 | two: hold 1 1 | net: hold 2 1 1"},
		{evSay(0), "desk: begin 1 1 1 0 | one: hold 1 1 | two: hold 1 1 | net: hold 2 1 1, hold 1 1 1"},
		{evBring(0), "desk: begin 1 1 1 0 | one: hold 1 1 | two: hold 1 1 | net: hold 1 1 1, held 2 1"},
		{evBring(1), "desk: begin 1 1 1 0 | one: hold 1 1 | two: hold 1 1 | told: held 2 1 | net: hold 1 1 1"},
		{evBring(0), "desk: begin 1 1 1 0 | one: hold 1 1 | two: hold 1 1 | told: held 2 1 | net: held 1 1"},
		{evBring(0), "desk: begin 1 1 1 0, /, yes 1 | one: hold 1 1 | two: hold 1 1 | told: held 2 1, held 1 1"},
		{evSay(0), "desk: begin 1 1 1 0, /, yes 1 | one: hold 1 1 | two: hold 1 1 | told: held 2 1, held 1 1"},
		{evForce(0), "desk: begin 1 1 1 0, yes 1 | one: hold 1 1 | two: hold 1 1 | told: held 2 1, held 1 1"},
		{evGive(1), "desk: begin 1 1 1 0, yes 1 | one: hold 1 1 | two: hold 1 1 | told: held 2 1, held 1 1"},
		{evSay(1), "desk: begin 1 1 1 0, yes 1 | one: hold 1 1 | two: hold 1 1 | told: held 2 1, held 1 1 | net: close 2 1"},
		{evBring(0), "desk: begin 1 1 1 0, yes 1 | one: hold 1 1 | two: hold 1 1, /, close 1 | told: held 2 1, held 1 1"},
		{evFall(0, 0), "desk: down, begin 1 1 1 0, yes 1 | one: hold 1 1 | two: hold 1 1, /, close 1"},
		{evRise(0), "desk: begin 1 1 1 0, yes 1 | one: hold 1 1 | two: hold 1 1, /, close 1"},
		{evForce(2), "desk: begin 1 1 1 0, yes 1 | one: hold 1 1 | two: hold 1 1, close 1"},
		{evSay(1), "desk: begin 1 1 1 0, yes 1 | one: hold 1 1 | two: hold 1 1, close 1 | net: close 2 1"},
		{evBring(0), "desk: begin 1 1 1 0, yes 1 | one: hold 1 1 | two: hold 1 1, close 1 | net: closed 2 1"},
		{evTwice(0), "desk: begin 1 1 1 0, yes 1 | one: hold 1 1 | two: hold 1 1, close 1 | net: closed 2 1, closed 2 1"},
		{evBring(1), "desk: begin 1 1 1 0, yes 1 | one: hold 1 1 | two: hold 1 1, close 1 | told: closed 2 1 | net: closed 2 1"},
		{evBring(0), "desk: begin 1 1 1 0, yes 1 | one: hold 1 1 | two: hold 1 1, close 1 | told: closed 2 1"},
		{evSay(0), "desk: begin 1 1 1 0, yes 1 | one: hold 1 1 | two: hold 1 1, close 1 | told: closed 2 1 | net: close 1 1"},
		{evBring(0), "desk: begin 1 1 1 0, yes 1 | one: hold 1 1, /, close 1 | two: hold 1 1, close 1 | told: closed 2 1"},
		{evFall(1, 1), "desk: begin 1 1 1 0, yes 1 | one: down, hold 1 1, close 1 | two: hold 1 1, close 1 | told: closed 2 1"},
		{evSay(0), "desk: begin 1 1 1 0, yes 1 | one: down, hold 1 1, close 1 | two: hold 1 1, close 1 | told: closed 2 1 | net: close 1 1"},
		{evTwice(0), "desk: begin 1 1 1 0, yes 1 | one: down, hold 1 1, close 1 | two: hold 1 1, close 1 | told: closed 2 1 | net: close 1 1, close 1 1"},
		{evBring(0), "desk: begin 1 1 1 0, yes 1 | one: down, hold 1 1, close 1 | two: hold 1 1, close 1 | told: closed 2 1 | net: close 1 1"},
		{evRise(1), "desk: begin 1 1 1 0, yes 1 | one: hold 1 1, close 1 | two: hold 1 1, close 1 | told: closed 2 1 | net: close 1 1"},
		{evBring(0), "desk: begin 1 1 1 0, yes 1 | one: hold 1 1, close 1 | two: hold 1 1, close 1 | told: closed 2 1 | net: closed 1 1"},
		{evBring(0), "desk: begin 1 1 1 0, yes 1, /, end 1 | one: hold 1 1, close 1 | two: hold 1 1, close 1 | told: closed 2 1, closed 1 1"},
	})
}

// The undo comes ahead of the hold that it is to undo: that finds it undone.
func TestTaleOfAHoldBehindItsUndo(t *testing.T) {
	w := mustGoSo(t, []int{1, 1, 1}, []step{
		{evBegin(1, 0, 0), "desk: /, begin 1 1 0 0"},
		{evForce(0), "desk: begin 1 1 0 0"},
		{evSay(0), "desk: begin 1 1 0 0 | net: hold 1 1 1"},
		{evGive(1), "desk: begin 1 1 0 0, /, no 1 | net: hold 1 1 1"},
		{evForce(0), "desk: begin 1 1 0 0, no 1 | net: hold 1 1 1"},
		{evSay(0), "desk: begin 1 1 0 0, no 1 | net: hold 1 1 1, undo 1 1"},
		{evTwice(0), "desk: begin 1 1 0 0, no 1 | net: hold 1 1 1, undo 1 1, hold 1 1 1"},
		{evTwice(1), "desk: begin 1 1 0 0, no 1 | net: hold 1 1 1, undo 1 1, hold 1 1 1, undo 1 1"},
		{evBring(1), "desk: begin 1 1 0 0, no 1 | one: /, undo 1 | net: hold 1 1 1, hold 1 1 1, undo 1 1"},
		{evBring(0), "desk: begin 1 1 0 0, no 1 | one: /, undo 1 | net: hold 1 1 1, undo 1 1"},
		{evForce(1), "desk: begin 1 1 0 0, no 1 | one: undo 1 | net: hold 1 1 1, undo 1 1"},
		{evBring(0), "desk: begin 1 1 0 0, no 1 | one: undo 1 | net: undo 1 1, full 1 1"},
		{evBring(0), "desk: begin 1 1 0 0, no 1 | one: undo 1 | net: full 1 1, undone 1 1"},
		{evBring(1), "desk: begin 1 1 0 0, no 1, /, end 1 | one: undo 1 | told: undone 1 1 | net: full 1 1"},
		{evBring(0), "desk: begin 1 1 0 0, no 1, /, end 1 | one: undo 1 | told: undone 1 1, full 1 1"},
	})
	if got := impl.WorldHolds(w, 1)[0]; got != (impl.Hold{State: impl.HoldUndone}) {
		t.Error(got)
	}
}

// Holds that come behind the undo of what they asked for: none of them has it again, and, whatever is answered, the trip stays no.
func TestTaleOfHoldsBehindTheUndoOfAHold(t *testing.T) {
	mustGoSo(t, []int{1, 1, 1}, []step{
		{evBegin(1, 0, 0), "desk: /, begin 1 1 0 0"},
		{evForce(0), "desk: begin 1 1 0 0"},
		{evSay(0), "desk: begin 1 1 0 0 | net: hold 1 1 1"},
		{evTwice(0), "desk: begin 1 1 0 0 | net: hold 1 1 1, hold 1 1 1"},
		{evTwice(1), "desk: begin 1 1 0 0 | net: hold 1 1 1, hold 1 1 1, hold 1 1 1"},
		{evBring(2), "desk: begin 1 1 0 0 | one: /, hold 1 1 | net: hold 1 1 1, hold 1 1 1"},
		{evForce(1), "desk: begin 1 1 0 0 | one: hold 1 1 | net: hold 1 1 1, hold 1 1 1"},
		{evGive(1), "desk: begin 1 1 0 0, /, no 1 | one: hold 1 1 | net: hold 1 1 1, hold 1 1 1"},
		{evForce(0), "desk: begin 1 1 0 0, no 1 | one: hold 1 1 | net: hold 1 1 1, hold 1 1 1"},
		{evSay(0), "desk: begin 1 1 0 0, no 1 | one: hold 1 1 | net: hold 1 1 1, hold 1 1 1, undo 1 1"},
		{evBring(2), "desk: begin 1 1 0 0, no 1 | one: hold 1 1, /, undo 1 | net: hold 1 1 1, hold 1 1 1"},
		// By what was forced it is held still, and a fall would leave that.
		{evBring(0), "desk: begin 1 1 0 0, no 1 | one: hold 1 1, /, undo 1 | net: hold 1 1 1, held 1 1"},
		{evForce(1), "desk: begin 1 1 0 0, no 1 | one: hold 1 1, undo 1 | net: hold 1 1 1, held 1 1"},
		{evBring(0), "desk: begin 1 1 0 0, no 1 | one: hold 1 1, undo 1 | net: held 1 1, full 1 1"},
		{evBring(0), "desk: begin 1 1 0 0, no 1 | one: hold 1 1, undo 1 | told: held 1 1 | net: full 1 1"},
		{evBring(0), "desk: begin 1 1 0 0, no 1 | one: hold 1 1, undo 1 | told: held 1 1, full 1 1"},
		{evSay(0), "desk: begin 1 1 0 0, no 1 | one: hold 1 1, undo 1 | told: held 1 1, full 1 1 | net: undo 1 1"},
		{evBring(0), "desk: begin 1 1 0 0, no 1 | one: hold 1 1, undo 1 | told: held 1 1, full 1 1 | net: undone 1 1"},
		{evBring(0), "desk: begin 1 1 0 0, no 1, /, end 1 | one: hold 1 1, undo 1 | told: held 1 1, full 1 1, undone 1 1"},
	})
}

// A fall loses the undo ahead of its being forced: the late hold comes in, and the next undo takes it out.
func TestTaleOfAnUndoThatIsLost(t *testing.T) {
	w := mustGoSo(t, []int{1, 1, 1}, []step{
		{evBegin(1, 0, 0), "desk: /, begin 1 1 0 0"},
		{evForce(0), "desk: begin 1 1 0 0"},
		{evSay(0), "desk: begin 1 1 0 0 | net: hold 1 1 1"},
		{evGive(1), "desk: begin 1 1 0 0, /, no 1 | net: hold 1 1 1"},
		{evForce(0), "desk: begin 1 1 0 0, no 1 | net: hold 1 1 1"},
		{evSay(0), "desk: begin 1 1 0 0, no 1 | net: hold 1 1 1, undo 1 1"},
		{evBring(1), "desk: begin 1 1 0 0, no 1 | one: /, undo 1 | net: hold 1 1 1"},
		{evFall(1, 0), "desk: begin 1 1 0 0, no 1 | one: down | net: hold 1 1 1"},
		{evRise(1), "desk: begin 1 1 0 0, no 1 | net: hold 1 1 1"},
		{evBring(0), "desk: begin 1 1 0 0, no 1 | one: /, hold 1 1"},
		{evForce(1), "desk: begin 1 1 0 0, no 1 | one: hold 1 1"},
		{evSay(0), "desk: begin 1 1 0 0, no 1 | one: hold 1 1 | net: undo 1 1"},
		{evBring(0), "desk: begin 1 1 0 0, no 1 | one: hold 1 1, /, undo 1"},
	})
	end := calmed(w)
	if got := tell(end); got != "desk: begin 1 1 0 0, no 1, end 1 | one: hold 1 1, undo 1 | told: undone 1 1" {
		t.Error(got)
	}
}

// What house 1 answered to the hold comes when the hold was undone since: the trip stays no.
func TestTaleOfAnAnswerBehindTheUndo(t *testing.T) {
	mustGoSo(t, []int{1, 1, 1}, []step{
		{evBegin(1, 0, 0), "desk: /, begin 1 1 0 0"},
		{evForce(0), "desk: begin 1 1 0 0"},
		{evSay(0), "desk: begin 1 1 0 0 | net: hold 1 1 1"},
		{evBring(0), "desk: begin 1 1 0 0 | one: /, hold 1 1"},
		{evForce(1), "desk: begin 1 1 0 0 | one: hold 1 1"},
		{evSay(0), "desk: begin 1 1 0 0 | one: hold 1 1 | net: hold 1 1 1"},
		{evBring(0), "desk: begin 1 1 0 0 | one: hold 1 1 | net: held 1 1"},
		{evGive(1), "desk: begin 1 1 0 0, /, no 1 | one: hold 1 1 | net: held 1 1"},
		{evForce(0), "desk: begin 1 1 0 0, no 1 | one: hold 1 1 | net: held 1 1"},
		{evSay(0), "desk: begin 1 1 0 0, no 1 | one: hold 1 1 | net: held 1 1, undo 1 1"},
		{evBring(1), "desk: begin 1 1 0 0, no 1 | one: hold 1 1, /, undo 1 | net: held 1 1"},
		{evForce(1), "desk: begin 1 1 0 0, no 1 | one: hold 1 1, undo 1 | net: held 1 1"},
		{evBring(0), "desk: begin 1 1 0 0, no 1 | one: hold 1 1, undo 1 | told: held 1 1"},
	})
}

// A fall of the desk loses what it was told: an answer that comes when it is down is lost too, one that comes later counts.
func TestTaleOfAnAnswerBehindAFallOfTheDesk(t *testing.T) {
	mustGoSo(t, []int{1, 1, 1}, []step{
		{evBegin(0, 1, 1), "desk: /, begin 1 0 1 1"},
		{evForce(0), "desk: begin 1 0 1 1"},
		{evSay(0), "desk: begin 1 0 1 1 | net: hold 2 1 1"},
		{evSay(1), "desk: begin 1 0 1 1 | net: hold 2 1 1, hold 3 1 1"},
		{evTwice(0), "desk: begin 1 0 1 1 | net: hold 2 1 1, hold 3 1 1, hold 2 1 1"},
		{evTwice(1), "desk: begin 1 0 1 1 | net: hold 2 1 1, hold 3 1 1, hold 2 1 1, hold 3 1 1"},
		{evBring(0), "desk: begin 1 0 1 1 | two: /, hold 1 1 | net: hold 3 1 1, hold 2 1 1, hold 3 1 1"},
		{evBring(0), "desk: begin 1 0 1 1 | two: /, hold 1 1 | three: /, hold 1 1 | net: hold 2 1 1, hold 3 1 1"},
		{evForce(2), "desk: begin 1 0 1 1 | two: hold 1 1 | three: /, hold 1 1 | net: hold 2 1 1, hold 3 1 1"},
		{evForce(3), "desk: begin 1 0 1 1 | two: hold 1 1 | three: hold 1 1 | net: hold 2 1 1, hold 3 1 1"},
		{evBring(0), "desk: begin 1 0 1 1 | two: hold 1 1 | three: hold 1 1 | net: hold 3 1 1, held 2 1"},
		{evBring(0), "desk: begin 1 0 1 1 | two: hold 1 1 | three: hold 1 1 | net: held 2 1, held 3 1"},
		{evTwice(0), "desk: begin 1 0 1 1 | two: hold 1 1 | three: hold 1 1 | net: held 2 1, held 3 1, held 2 1"},
		{evBring(0), "desk: begin 1 0 1 1 | two: hold 1 1 | three: hold 1 1 | told: held 2 1 | net: held 3 1, held 2 1"},
		{evFall(0, 0), "desk: down, begin 1 0 1 1 | two: hold 1 1 | three: hold 1 1 | net: held 3 1, held 2 1"},
		{evBring(1), "desk: down, begin 1 0 1 1 | two: hold 1 1 | three: hold 1 1 | net: held 3 1"},
		{evRise(0), "desk: begin 1 0 1 1 | two: hold 1 1 | three: hold 1 1 | net: held 3 1"},
		{evBring(0), "desk: begin 1 0 1 1 | two: hold 1 1 | three: hold 1 1 | told: held 3 1"},
		{evSay(0), "desk: begin 1 0 1 1 | two: hold 1 1 | three: hold 1 1 | told: held 3 1 | net: hold 2 1 1"},
		{evBring(0), "desk: begin 1 0 1 1 | two: hold 1 1 | three: hold 1 1 | told: held 3 1 | net: held 2 1"},
		{evBring(0), "desk: begin 1 0 1 1, /, yes 1 | two: hold 1 1 | three: hold 1 1 | told: held 3 1, held 2 1"},
		{evFall(0, 0), "desk: down, begin 1 0 1 1 | two: hold 1 1 | three: hold 1 1"},
		{evRise(0), "desk: begin 1 0 1 1 | two: hold 1 1 | three: hold 1 1"},
		{evGive(1), "desk: begin 1 0 1 1, /, no 1 | two: hold 1 1 | three: hold 1 1"},
	})
}

// Two trips of which just one fits, and a full house's answer that comes twice.
func TestTaleOfTwoTrips(t *testing.T) {
	mustGoSo(t, []int{2, 0, 0}, []step{
		{evBegin(2, 0, 0), "desk: /, begin 1 2 0 0"},
		{evBegin(1, 0, 0), "desk: /, begin 1 2 0 0, begin 2 1 0 0"},
		{evForce(0), "desk: begin 1 2 0 0, begin 2 1 0 0"},
		{evSay(1), "desk: begin 1 2 0 0, begin 2 1 0 0 | net: hold 1 2 1"},
		{evSay(0), "desk: begin 1 2 0 0, begin 2 1 0 0 | net: hold 1 2 1, hold 1 1 2"},
		{evBring(0), "desk: begin 1 2 0 0, begin 2 1 0 0 | one: /, hold 2 1 | net: hold 1 1 2"},
		{evTwice(0), "desk: begin 1 2 0 0, begin 2 1 0 0 | one: /, hold 2 1 | net: hold 1 1 2, hold 1 1 2"},
		{evBring(0), "desk: begin 1 2 0 0, begin 2 1 0 0 | one: /, hold 2 1 | net: hold 1 1 2, full 1 1"},
		{evBring(0), "desk: begin 1 2 0 0, begin 2 1 0 0 | one: /, hold 2 1 | net: full 1 1, full 1 1"},
		{evBring(1), "desk: begin 1 2 0 0, begin 2 1 0 0, /, no 1 | one: /, hold 2 1 | told: full 1 1 | net: full 1 1"},
		{evBring(0), "desk: begin 1 2 0 0, begin 2 1 0 0, /, no 1 | one: /, hold 2 1 | told: full 1 1"},
		{evLose(0), "desk: begin 1 2 0 0, begin 2 1 0 0, /, no 1 | one: /, hold 2 1 | told: full 1 1"},
		{evFall(1, -1), "desk: begin 1 2 0 0, begin 2 1 0 0, /, no 1 | one: down | told: full 1 1"},
		{evFall(0, 0), "desk: down, begin 1 2 0 0, begin 2 1 0 0 | one: down"},
	})
}

// Calm rounds, one by one, from a world that fell with words under way.
func TestTaleOfACalm(t *testing.T) {
	w := done(worldOf(1, 1, 0).world, evBegin(1, 1, 0), evBegin(0, 1, 0), evForce(0), evSay(0), evSay(2), evTwice(1), evFall(1, 0), evFall(0, 0))
	if got := tell(w); got != "desk: down, begin 1 1 1 0, begin 2 0 1 0 | one: down | net: hold 1 1 1, hold 2 2 1, hold 2 2 1" {
		t.Fatal(got)
	}
	trips := "desk: begin 1 1 1 0, begin 2 0 1 0"
	for rounds, want := range []string{
		1: trips + ", no 1 | one: hold 1 1 | two: hold 2 1 | told: full 2 1",
		2: trips + ", no 1, yes 2 | one: hold 1 1, undo 1 | two: hold 2 1, undo 1 | told: full 2 1, held 2 2",
		3: trips + ", no 1, yes 2, end 1 | one: hold 1 1, undo 1 | two: hold 2 1, undo 1, close 2 | told: full 2 1, held 2 2, undone 1 1, undone 2 1",
		4: trips + ", no 1, yes 2, end 1, end 2 | one: hold 1 1, undo 1 | two: hold 2 1, undo 1, close 2 | told: full 2 1, held 2 2, undone 1 1, undone 2 1, closed 2 2",
		9: trips + ", no 1, yes 2, end 1, end 2 | one: hold 1 1, undo 1 | two: hold 2 1, undo 1, close 2 | told: full 2 1, held 2 2, undone 1 1, undone 2 1, closed 2 2",
	} {
		if got := tell(impl.WorldCalm(w, rounds)); want != "" && got != want {
			t.Errorf("%d rounds:\n%s\n%s", rounds, got, want)
		}
	}
}

// What is to be said is settled when all are up, ahead of all that is heard in the round: here the house is asked once more, though its answer was under way.
func TestACalmRoundSaysWhatIsToBeSaidAtItsBeginning(t *testing.T) {
	w := worldOf(1, 1, 1).world
	w.Desk = deskWith(1, nil, beginRec(1, 1, 0, 0))
	w.Houses[0] = houseWith(1, 1, 1, undoRec(1))
	w.Nets = []impl.Word{heldBy(1, 1)}
	if got := tell(impl.WorldCalm(w, 1)); got != "desk: begin 1 1 0 0, yes 1 | one: undo 1 | told: held 1 1, full 1 1" {
		t.Error(got)
	}
}

// A calm round's words under way come ahead of what the desk says, each answer ahead of the next word.
func TestACalmRoundHearsInOrder(t *testing.T) {
	w := worldOf(1, 1, 1).world
	w.Desk = deskWith(2, nil, beginRec(1, 1, 0, 0), beginRec(2, 1, 0, 0))
	w.Nets = []impl.Word{{Kind: impl.WordHold, House: 1, Trip: 2, Many: 1}}
	if got := tell(impl.WorldCalm(w, 1)); got != "desk: begin 1 1 0 0, begin 2 1 0 0, no 1 | one: hold 2 1 | told: full 1 1" {
		t.Error(got)
	}
	w.Nets = []impl.Word{heldBy(1, 1), {Kind: impl.WordHold, House: 1, Trip: 1, Many: 1}, fullBy(1, 2), heldBy(1, 2)}
	if got := tell(impl.WorldCalm(w, 1)); got != "desk: begin 1 1 0 0, begin 2 1 0 0, yes 1, no 2 | one: hold 1 1 | told: held 1 1, full 1 2, held 1 2" {
		t.Error(got)
	}
}

// wholeLives is the events of trips of two houses: one that is kept, and some that are given up, ever earlier; the last one's hold comes behind its undo.
func wholeLives() [][]impl.Event {
	ask := []impl.Event{
		evBegin(1, 2, 0), evForce(0), evSay(0), evSay(1), evBring(0), evBring(0), evForce(1), evForce(2),
		evSay(0), evBring(0), evBring(0), evSay(0), evBring(0), evBring(0),
	}
	// Each of the two is told what was decided, forces it, and is told again.
	end := []impl.Event{
		evForce(0), evSay(0), evBring(0), evForce(1), evSay(0), evBring(0), evBring(0),
		evSay(0), evBring(0), evForce(2), evSay(0), evBring(0), evBring(0), evForce(0),
	}
	late := []impl.Event{
		evForce(0), evSay(0), evBring(1), evForce(1), evBring(0), evSay(0), evBring(1), evBring(1),
		evSay(0), evBring(1), evForce(2), evSay(0), evBring(1), evBring(1), evBring(0), evForce(0),
	}
	give := []impl.Event{evGive(1)}
	return [][]impl.Event{
		slices.Concat(ask, end),
		slices.Concat(ask[:11], give, end),
		slices.Concat(ask[:6], give, end),
		slices.Concat(ask[:2], give, end),
		slices.Concat(ask[:3], give, late),
	}
}

func TestWholeLivesEnd(t *testing.T) {
	for i, events := range wholeLives() {
		w := played([]int{1, 2, 0}, events).world
		want, holds := impl.TripLeft, []int{impl.HoldUndone, impl.HoldUndone, impl.HoldNone}
		if i == 0 {
			want, holds = impl.TripKept, []int{impl.HoldClosed, impl.HoldClosed, impl.HoldNone}
		}
		if stateIn(impl.DeskTrips(w.Desk, true), 1) != want || !slices.Equal(statesOf(impl.WorldHolds(w, 1)), holds) || len(w.Nets) != 0 {
			t.Error(i, w)
		}
	}
}

// Falls of each, and of two, with nothing, some and all kept, at every moment of a trip, risen again at once, or in a calm.
func TestFallsAtEveryMomentOfATrip(t *testing.T) {
	for _, events := range wholeLives() {
		t.Run("", func(t *testing.T) {
			t.Parallel()
			w := worldOf(1, 2, 0).world
			for at := range len(events) + 1 {
				for who := range 4 {
					for _, keep := range []int{-1, 0, 1, 40} {
						mustBearAFall(t, w, events[at:], evFall(who, keep))
						mustBearAFall(t, w, events[at:], evFall(who, keep), evFall((who+1)%3, 0))
					}
				}
				if at < len(events) {
					w = done(w, events[at])
				}
			}
		})
	}
}

// mustBearAFall fails if a promise is broken behind falls, when all that fell are risen, behind the events that follow, and in a calm.
func mustBearAFall(t *testing.T, w impl.World, events []impl.Event, falls ...impl.Event) {
	t.Helper()
	fell := done(w, falls...)
	mustKeepForced(t, w, fell)
	if end := calmed(fell); faultOf(fell, []int{1, 2, 0}) != 0 || !cameToIt(end) || !staysDecided(w, end) {
		t.Fatal(w, falls, end)
	}
	risen := fell
	for _, fall := range falls {
		risen = done(risen, evRise(fall.A))
	}
	for _, e := range events {
		risen = done(risen, e)
		if fault := faultOf(risen, []int{1, 2, 0}); fault != 0 {
			t.Fatal("promise", fault, w, falls, e, risen)
		}
	}
	if end := calmed(risen); !cameToIt(end) || !staysDecided(w, risen) || !staysDecided(risen, end) {
		t.Fatal(w, falls, risen, end)
	}
}
