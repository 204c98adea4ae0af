package tests

import (
	"math/rand/v2"
	"regexp"
	"slices"
	"strconv"
	"strings"
	"testing"

	"loop.example/concierge/impl"
)

// linesOf is a text of these lines, each with its newline.
func linesOf(lines ...string) string {
	text := ""
	for _, line := range lines {
		text += line + "\n"
	}
	return text
}

// mustTell fails unless lines tell just this, line by line.
func mustTell(t *testing.T, rooms []int, text string, want ...string) {
	t.Helper()
	if got := impl.LinesRun(rooms, text); got != linesOf(want...) {
		t.Errorf("%v %q:\n%s\nnot\n%s", rooms, text, got, linesOf(want...))
	}
}

// mustTellByDocument holds LinesRun against the document; what was told.
func mustTellByDocument(t *testing.T, rooms []int, text string) string {
	t.Helper()
	got := impl.LinesRun(rooms, text)
	if want := linesByDocument(rooms, text); got != want {
		t.Fatalf("%v %q:\n%s\nnot\n%s", rooms, text, got, want)
	}
	return got
}

// linesByDocument says once more what the document does, with its numbers and words written out.
func linesByDocument(rooms []int, text string) string {
	if len(rooms) != 3 || slices.ContainsFunc(rooms, func(n int) bool { return n < 0 || n > 9 }) {
		return "no world\n"
	}
	if len(text) > 600 {
		return "too long\n"
	}
	w := firstWorld(rooms)
	all := ""
	for strings.Contains(text, "\n") {
		end := strings.Index(text, "\n")
		var told string
		w, told = lineByDocument(w, text[:end])
		all, text = all+told, text[end+1:]
	}
	return all + tripsTold(w)
}

// firstWorld is of rooms of which there is a world.
func firstWorld(rooms []int) impl.World {
	w := impl.World{Desk: impl.Desk{Up: true}}
	for i, room := range rooms {
		w.Houses = append(w.Houses, impl.House{Id: i + 1, Up: true, Room: room})
	}
	return w
}

// lineByDocument is the world behind a line, and what that tells.
func lineByDocument(w impl.World, line string) (impl.World, string) {
	words := slices.DeleteFunc(strings.Split(line, " "), func(word string) bool { return word == "" })
	// What is not there is no number.
	words = append(words, "", "", "", "")
	a, b, c := numberByDocument(words[1]), numberByDocument(words[2]), numberByDocument(words[3])
	switch words[0] {
	case "begin":
		return worldDidByDocument(w, impl.Event{Kind: 1, Many: []int{a, b, c}}), ""
	case "give", "say", "bring":
		kind := map[string]int{"give": 2, "say": 3, "bring": 4}[words[0]]
		return worldDidByDocument(w, impl.Event{Kind: kind, A: a}), ""
	case "force", "fall", "rise":
		kind := map[string]int{"force": 7, "fall": 8, "rise": 9}[words[0]]
		return worldDidByDocument(w, impl.Event{Kind: kind, A: a, B: b}), ""
	case "calm":
		return calmedByDocument(w, 9), ""
	case "see":
		return w, tripsTold(w)
	case "words":
		return w, wordsTold(w)
	}
	return w, "what\n"
}

var oneFigureOrTwo = regexp.MustCompile(`^[0-9][0-9]?$`)

func numberByDocument(word string) int {
	if !oneFigureOrTwo.MatchString(word) {
		return -1
	}
	n, _ := strconv.Atoi(word)
	return n
}

// tripsTold is what `see` tells.
func tripsTold(w impl.World) string {
	out := ""
	for i, trip := range tripsByDocument(w.Desk.Log.Recs).list {
		words := []string{strconv.Itoa(i + 1), []string{"none", "asked", "yes", "no", "kept", "left"}[trip.State]}
		for _, hold := range tripsHeldAt(w, i+1) {
			words = append(words, []string{"-", "held", "closed", "undone"}[hold.State])
		}
		out += linesOf(strings.Join(words, " "))
	}
	out += "free"
	for _, h := range w.Houses {
		s, _ := stockOfByDocument(h.Room, h.Log.Recs)
		out += " " + strconv.Itoa(freeByDocument(s))
	}
	return out + "\n"
}

// wordsTold is what `words` tells.
func wordsTold(w impl.World) string {
	words, out := deskWordsByDocument(w.Desk), ""
	for _, word := range words {
		text := []string{"none", "hold", "close", "undo"}[word.Kind] + " " + strconv.Itoa(word.House) + " " + strconv.Itoa(word.Trip)
		if word.Kind == 1 {
			text += " " + strconv.Itoa(word.Many)
		}
		out += linesOf(text)
	}
	return out + linesOf(strconv.Itoa(len(words)))
}

// lineOf is the line of an event; empty, if there is none.
func lineOf(e impl.Event) string {
	number := strconv.Itoa
	switch e.Kind {
	case 1:
		words := []string{"begin"}
		for _, n := range e.Many {
			words = append(words, number(n))
		}
		return strings.Join(words, " ")
	case 2, 3, 4, 7, 9:
		return []string{2: "give ", 3: "say ", 4: "bring ", 7: "force ", 9: "rise "}[e.Kind] + number(e.A)
	case 8:
		return "fall " + number(e.A) + " " + number(e.B)
	}
	return ""
}

// drawing is how texts are drawn: of a hundred lines how many tell, calm, fall or begin, and are odd; all others let trips go on.
type drawing struct {
	tell, calm, fall, begin, odd int
}

// drawings is: steady, much told, stormy, many calms, and much that is wrong.
func drawings() []drawing {
	return []drawing{
		{tell: 4, begin: 3},
		{tell: 30, calm: 1, fall: 2, begin: 6, odd: 3},
		{tell: 6, fall: 20, begin: 6},
		{tell: 8, calm: 12, fall: 5, begin: 12},
		{tell: 6, calm: 2, fall: 3, begin: 10, odd: 40},
	}
}

// drawnLine is a line, as the dice fall, for a world.
func drawnLine(dice *rand.Rand, w impl.World, how drawing) string {
	at := dice.IntN(100)
	if at -= how.tell; at < 0 {
		return []string{"see", "words"}[dice.IntN(2)]
	}
	if at -= how.calm; at < 0 {
		return "calm"
	}
	if at -= how.fall; at < 0 {
		return lineOf(evFall(dice.IntN(4), dice.IntN(4)))
	}
	if at -= how.begin; at < 0 {
		return lineOf(evBegin(thrownMany(dice)...))
	}
	if at -= how.odd; at < 0 {
		return oddLine(dice)
	}
	useful := usefulEvents(w)
	if len(useful) == 0 || dice.IntN(20) == 0 {
		return lineOf(evGive(1 + dice.IntN(max(1, len(allTrips(w.Desk))))))
	}
	return lineOf(useful[dice.IntN(len(useful))])
}

// firstWords is all first words of lines.
var firstWords = []string{"begin", "give", "say", "bring", "force", "fall", "rise", "calm", "see", "words"}

// oddLine is a line, as the dice fall, at most of which there is something odd.
func oddLine(dice *rand.Rand) string {
	if dice.IntN(8) == 0 {
		return wrongFirstWords()[dice.IntN(len(wrongFirstWords()))]
	}
	line := []string{"", "", "", " ", "  "}[dice.IntN(5)] + firstWords[dice.IntN(len(firstWords))]
	numbers := numberWords()
	for range dice.IntN(5) {
		word := strconv.Itoa(dice.IntN(4))
		if dice.IntN(3) == 0 {
			word = numbers[dice.IntN(len(numbers))].word
		}
		line += []string{" ", " ", " ", "  ", "   "}[dice.IntN(5)] + word
	}
	return line + []string{"", "", "", " ", "\t", "\r"}[dice.IntN(6)]
}

// drawnText is a text, as the dice fall, of at most 600 bytes.
func drawnText(dice *rand.Rand, rooms []int, how drawing) string {
	w, text := firstWorld(rooms), linesOf(lineOf(evBegin(thrownMany(dice)...)))
	w, _ = lineByDocument(w, text[:len(text)-1])
	most := 600
	if dice.IntN(4) == 0 {
		most = dice.IntN(601)
	}
	for {
		line := drawnLine(dice, w, how)
		if len(text)+len(line)+1 > most {
			return text
		}
		text += line + "\n"
		w, _ = lineByDocument(w, line)
	}
}

// eachText calls f with so many texts, drawn from a seed, and the rooms of each; calls of the same seed are of the same ones.
func eachText(seed uint64, texts int, f func(rooms []int, text string)) {
	dice := rand.New(rand.NewPCG(seed, 31))
	hows := drawings()
	for i := range texts {
		rooms := thrownRooms(dice)
		f(rooms, drawnText(dice, rooms, hows[i%len(hows)]))
	}
}

// firstLines is the first lines of a text, as many as these bytes hold.
func firstLines(text string, most int) string {
	if len(text) <= most {
		return text
	}
	return text[:strings.LastIndex(text[:most], "\n")+1]
}

// lastLine is a text's last line, without its newline.
func lastLine(text string) string {
	text = strings.TrimSuffix(text, "\n")
	return text[strings.LastIndex(text, "\n")+1:]
}

// endTold is what a text tells in the end, that is, what it tells behind all lines that are done.
func endTold(t *testing.T, rooms []int, text string) string {
	t.Helper()
	w := firstWorld(rooms)
	for _, line := range strings.SplitAfter(text, "\n") {
		if strings.HasSuffix(line, "\n") {
			w, _ = lineByDocument(w, line[:len(line)-1])
		}
	}
	end := tripsTold(w)
	if !strings.HasSuffix(impl.LinesRun(rooms, text), end) {
		t.Fatal(rooms, text, end)
	}
	return end
}
