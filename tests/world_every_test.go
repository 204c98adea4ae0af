package tests

import (
	"slices"
	"testing"

	"loop.example/concierge/impl"
)

// small is a world, small enough that all worlds to which events lead from it can be gone through: its rooms, its trips, and how many words are let be under way.
type small struct {
	name  string
	rooms []int
	trips [][]int
	most  int
	calms int
}

// smalls is one trip of one house, one of two, and two trips of one house that has room for one.
func smalls() []small {
	return []small{
		{"one house", []int{1, 0, 0}, [][]int{{1, 0, 0}}, 3, 1},
		{"a house that is full", []int{0, 1, 0}, [][]int{{1, 1, 0}}, 1, 1},
		{"two houses", []int{1, 1, 0}, [][]int{{1, 1, 0}}, 1, 1},
		{"two houses, two words", []int{1, 1, 0}, [][]int{{1, 1, 0}}, 2, 25},
		{"two trips", []int{1, 0, 0}, [][]int{{1, 0, 0}, {1, 0, 0}}, 1, 15},
	}
}

// nextEvents is all that can happen next, at the desk and at the houses of which any is wanted.
func nextEvents(w impl.World, s small) []impl.Event {
	var out []impl.Event
	for i := range s.trips {
		out = append(out, evGive(i+1))
	}
	room := len(w.Nets) < s.most
	for at := range impl.DeskWords(w.Desk) {
		if room {
			out = append(out, evSay(at))
		}
	}
	for at := range w.Nets {
		out = append(out, evBring(at), evLose(at))
		if room {
			out = append(out, evTwice(at))
		}
	}
	for _, who := range append([]int{0}, housesByDocument(sumOf(s.trips...))...) {
		out = append(out, evForce(who), evFall(who, 0), evFall(who, 1), evRise(who))
	}
	return out
}

// keyOf is the same of worlds that differ just by the order of what was told, or is under way, in which no event is another one.
func keyOf(w impl.World) string {
	var key []byte
	for who := range 4 {
		l := logOf(w, who)
		key = append(key, byte(l.Forced), byte(len(l.Recs)))
		if upOf(w, who) {
			key = append(key, 'u')
		}
		for _, r := range l.Recs {
			key = append(key, byte(r.Kind), byte(r.Trip))
		}
	}
	for _, words := range [][]impl.Word{w.Desk.Told, w.Nets} {
		texts := textsOf(words)
		slices.Sort(texts)
		for _, text := range texts {
			key = append(key, text...)
		}
		key = append(key, '.')
	}
	return string(key)
}

// eachReached calls f with every world to which events lead, each once, and with that ahead of it; it is the number of events behind which there is nothing new.
func eachReached(s small, f func(before, behind impl.World)) int {
	first := begunIn(s.rooms, s.trips...)
	seen := map[string]bool{keyOf(first): true}
	layer, depth := []impl.World{first}, 0
	for len(layer) > 0 {
		var next []impl.World
		for _, w := range layer {
			for _, e := range nextEvents(w, s) {
				behind := impl.WorldDo(w, e)
				if key := keyOf(behind); !seen[key] {
					seen[key] = true
					next = append(next, behind)
					f(w, behind)
				}
			}
		}
		layer, depth = next, depth+1
	}
	return depth
}

func TestEveryWorldThatIsReached(t *testing.T) {
	for _, s := range smalls() {
		t.Run(s.name, func(t *testing.T) {
			t.Parallel()
			count := 0
			depth := eachReached(s, func(before, behind impl.World) {
				count++
				if fault := faultOf(behind, s.rooms); fault != 0 || !impl.WorldOk(behind) || !staysDecided(before, behind) {
					t.Fatal("promise", fault, before, behind)
				}
				// Of the larger ones a calm comes behind some worlds alone.
				if count%s.calms != 0 {
					return
				}
				if end := calmed(behind); !cameToIt(end) || !staysDecided(behind, end) {
					t.Fatal(behind, end)
				}
			})
			// Trips begin ahead of all that is gone through.
			if count < 1000 || depth+len(s.trips) > 80 {
				t.Error(count, depth)
			}
		})
	}
}
