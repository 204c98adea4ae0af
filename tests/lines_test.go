package tests

import (
	"fmt"
	"math/rand/v2"
	"slices"
	"strings"
	"testing"

	"loop.example/concierge/impl"
)

func TestLinesByTheDocument(t *testing.T) {
	t.Parallel()
	told := map[string]int{}
	eachText(310, 600, func(rooms []int, text string) {
		got := mustTellByDocument(t, rooms, text)
		for _, word := range strings.Fields(got) {
			told[word]++
		}
	})
	for _, word := range []string{"asked", "yes", "no", "kept", "left", "-", "held", "closed", "undone", "free", "what", "hold", "close", "undo"} {
		if told[word] < 100 {
			t.Errorf("hardly any text tells %q: %d", word, told[word])
		}
	}
}

// Bytes, as the dice fall, and texts with some of their bytes being others.
func TestLinesOfAnyBytes(t *testing.T) {
	t.Parallel()
	dice := rand.New(rand.NewPCG(31, 2))
	for range 3000 {
		text := make([]byte, dice.IntN(640))
		for i := range text {
			text[i] = byte(dice.IntN(256))
			if dice.IntN(2) == 0 {
				text[i] = " \n 012"[dice.IntN(6)]
			}
		}
		mustTellByDocument(t, thrownRooms(dice), string(text))
	}
	eachText(313, 300, func(rooms []int, text string) {
		other := []byte(text)
		for range 1 + dice.IntN(8) {
			other[dice.IntN(len(other))] = "\n \t\r019a\x00\xff-+"[dice.IntN(12)]
		}
		mustTellByDocument(t, rooms, string(other))
	})
}

func TestLinesWithNumbersAtRoomsOfEachSize(t *testing.T) {
	for room := range 10 {
		mustTell(t, []int{room, 9 - room, room}, "see\nbegin 3 0 0\nwords\n", fmt.Sprintf("free %d %d %d", room, 9-room, room), "0", "1 asked - - -", fmt.Sprintf("free %d %d %d", room, 9-room, room))
	}
}

// edgeTexts is texts of no line, of one, and of some at and past the limits.
func edgeTexts() []string {
	return []string{
		"", "\n", " ", "\n\n", "x", "see", "see\n", "words\n", "calm\n", "what\n", "begin\n", "fall 0 0\n", "fall 0\nsee\nwords\ncalm\n", "\xff\n\x00\n",
		strings.Repeat("\n", 600), strings.Repeat("\n", 601), strings.Repeat("x", 600), strings.Repeat("x", 601), strings.Repeat("begin 1 1 1\n", 50),
	}
}

func TestP96WhatIsToldHasLines(t *testing.T) {
	t.Parallel()
	must := func(rooms []int, text string) {
		got := impl.LinesRun(rooms, text)
		if len(text) > 600 {
			if got != "too long\n" {
				t.Fatalf("%v %q: %q", rooms, text, got)
			}
			return
		}
		if !strings.HasSuffix(got, "\n") || strings.Contains("\n"+got, "\n\n") || !strings.HasPrefix(lastLine(got), "free ") || len(strings.Fields(lastLine(got))) != 4 {
			t.Fatalf("%v %q: %q", rooms, text, got)
		}
	}
	eachText(96, 200, must)
	for _, text := range edgeTexts() {
		for _, rooms := range [][]int{{0, 0, 0}, {1, 1, 1}, {2, 1, 0}, {9, 9, 9}} {
			must(rooms, text)
		}
		for _, rooms := range badRooms() {
			mustTell(t, rooms, text, "no world")
		}
	}
}

// tripLine is a trip's line, of which of each house of which it wants any the same is told.
func tripLine(number int, state string, many []int, hold string) string {
	line := fmt.Sprint(number, " ", state)
	for _, n := range many {
		if n > 0 {
			line += " " + hold
		} else {
			line += " -"
		}
	}
	return line
}

func TestP97KeptIfThereIsAsMuchElseLeft(t *testing.T) {
	rooms := []int{2, 1, 0}
	mustTell(t, rooms, "begin 2 1 0\ncalm\n", "1 kept closed closed -", "free 0 0 0")
	mustTell(t, rooms, "begin 2 1 1\ncalm\n", "1 left undone undone undone", "free 2 1 0")
	mustTell(t, rooms, "begin 3 0 0\ncalm\n", "1 left undone - -", "free 2 1 0")
	for _, many := range wanted() {
		line := lineOf(evBegin(many...)) + "\n"
		for _, ahead := range []string{"", "force 0\n", "force 0\nfall 0 0\n", "force 0\nsay 0\nbring 0\n", "force 0\nsay 0\nfall 1 0\nbring 0\nfall 3 0\n"} {
			if many[0] <= 2 && many[1] <= 1 && many[2] == 0 {
				mustTell(t, rooms, line+ahead+"calm\n", tripLine(1, "kept", many, "closed"), fmt.Sprintf("free %d %d 0", 2-many[0], 1-many[1]))
				continue
			}
			mustTell(t, rooms, line+ahead+"calm\n", tripLine(1, "left", many, "undone"), "free 2 1 0")
		}
	}
}

// lifeLines is the steps of a trip that wants one of the first house, each with what `see` tells of it behind that.
func lifeLines() [][2]string {
	return [][2]string{
		{"begin 1 0 0", "1 asked - - -"},
		{"force 0", "1 asked - - -"},
		{"say 0", "1 asked - - -"},
		{"bring 0", "1 asked held - -"},
		{"force 1", "1 asked held - -"},
		{"say 0", "1 asked held - -"},
		{"bring 0", "1 asked held - -"},
		{"bring 0", "1 yes held - -"},
		{"force 0", "1 yes held - -"},
		{"say 0", "1 yes held - -"},
		{"bring 0", "1 yes closed - -"},
		{"force 1", "1 yes closed - -"},
		{"say 0", "1 yes closed - -"},
		{"bring 0", "1 yes closed - -"},
		{"bring 0", "1 kept closed - -"},
		{"force 0", "1 kept closed - -"},
	}
}

// freeBehind is the line of what is free in a world of ones, behind the line of a trip that wants one of the first house.
func freeBehind(line string) string {
	if strings.Contains(line, "held") || strings.Contains(line, "closed") {
		return "free 0 1 1"
	}
	return "free 1 1 1"
}

func TestP98TheStepsOfATripAreTold(t *testing.T) {
	mustTell(t, ones, "begin 1 0 0\nsee\nforce 0\nsay 0\nbring 0\nsee\nforce 1\nsay 0\nbring 0\nbring 0\nsee\nforce 0\nsay 0\nbring 0\nsee\nforce 1\nsay 0\nbring 0\nbring 0\n",
		"1 asked - - -", "free 1 1 1", "1 asked held - -", "free 0 1 1", "1 yes held - -", "free 0 1 1", "1 yes closed - -", "free 0 1 1", "1 kept closed - -", "free 0 1 1")
	text, sees := "", ""
	var want []string
	for _, step := range lifeLines() {
		text += step[0] + "\n"
		sees += step[0] + "\nsee\n"
		want = append(want, step[1], freeBehind(step[1]))
		mustTell(t, ones, text, step[1], freeBehind(step[1]))
		mustTell(t, ones, sees, append(slices.Clone(want), step[1], freeBehind(step[1]))...)
	}
	mustTell(t, ones, text+"words\nbegin 0 1 0\nforce 0\nwords\n", "0", "hold 2 2 1", "1", "1 kept closed - -", "2 asked - - -", "free 0 1 1")
}

// What the desk has to say at each step of a trip.
func TestWordsAtEachStepOfATrip(t *testing.T) {
	text := ""
	for at, step := range lifeLines() {
		text += step[0] + "\n"
		want := []string{"hold 1 1 1", "1"}
		switch {
		// The answer makes the word needless ahead of the force of what was decided by it.
		case at == 0, at == 7, at >= 14:
			want = []string{"0"}
		case at >= 8:
			want = []string{"close 1 1", "1"}
		}
		mustTell(t, ones, text+"words\n", append(want, step[1], freeBehind(step[1]))...)
	}
	mustTell(t, ones, "begin 1 0 0\nforce 0\ngive 1\nwords\nforce 0\nwords\nfall 0 0\nwords\nrise 0\nwords\n",
		"hold 1 1 1", "1", "undo 1 1", "1", "0", "undo 1 1", "1", "1 no - - -", "free 1 1 1")
}

// Behind each step of a trip a calm brings it to its end.
func TestCalmAtEachStepOfATrip(t *testing.T) {
	text := ""
	for at, step := range lifeLines() {
		text += step[0] + "\n"
		mustTell(t, ones, text+"calm\n", "1 kept closed - -", "free 0 1 1")
		for who := range 4 {
			for _, keep := range []string{"", " 0", " 1", " 99"} {
				got := mustTellByDocument(t, ones, fmt.Sprint(text, "fall ", who, keep, "\nsee\ncalm\nsee\nwords\n"))
				if begun := who != 0 || at > 0 || keep == " 1" || keep == " 99"; begun != strings.HasSuffix(got, "0\n1 kept closed - -\nfree 0 1 1\n") {
					t.Errorf("%q, %d%s: %q", text, who, keep, got)
				}
			}
		}
	}
}

func TestP99WhatWasNotForcedIsGone(t *testing.T) {
	for _, fall := range []string{"fall 0", "fall 0 0", "fall 0 x"} {
		mustTell(t, ones, "begin 1 0 0\n"+fall+"\n", "free 1 1 1")
		mustTell(t, ones, "begin 1 0 0\n"+fall+"\nrise 0\nsee\nbegin 0 1 0\n", "free 1 1 1", "1 asked - - -", "free 1 1 1")
		mustTell(t, ones, "begin 1 0 0\nforce 0\n"+fall+"\n", "1 asked - - -", "free 1 1 1")
		mustTell(t, ones, "begin 1 0 0\nforce 0\nbegin 0 1 0\n"+fall+"\ncalm\n", "1 kept closed - -", "free 0 1 1")
	}
	mustTell(t, ones, "begin 1 0 0\nfall 0 1\n", "1 asked - - -", "free 1 1 1")
	held := "begin 1 0 0\nforce 0\nsay 0\nbring 0\n"
	for _, fall := range []string{"fall 1", "fall 1 0", "fall 1 x"} {
		mustTell(t, ones, held+"see\n"+fall+"\n", "1 asked held - -", "free 0 1 1", "1 asked - - -", "free 1 1 1")
		mustTell(t, ones, held+fall+"\nsay 0\nbring 0\nsee\nrise 1\nsay 0\nbring 0\n", "1 asked - - -", "free 1 1 1", "1 asked held - -", "free 0 1 1")
		mustTell(t, ones, held+fall+"\nrise 1\nsay 0\nbring 0\nforce 1\n"+fall+"\n", "1 asked held - -", "free 0 1 1")
		mustTell(t, ones, held+fall+"\ncalm\n", "1 kept closed - -", "free 0 1 1")
		mustTell(t, ones, held+"force 1\n"+fall+"\n", "1 asked held - -", "free 0 1 1")
	}
	mustTell(t, ones, held+"fall 1 1\n", "1 asked held - -", "free 0 1 1")
	mustTell(t, ones, held+"fall 2 0\nfall 3 0\nfall 0 0\n", "1 asked held - -", "free 0 1 1")
}

func TestP100GivenUpIsLeft(t *testing.T) {
	mustTell(t, ones, "begin 1 0 0\ngive 1\ncalm\n", "1 left undone - -", "free 1 1 1")
	mustTell(t, ones, "begin 1 0 0\nforce 0\nsay 0\nbring 0\ngive 1\nsee\ncalm\n", "1 no held - -", "free 0 1 1", "1 left undone - -", "free 1 1 1")
	mustTell(t, ones, "begin 1 0 0\ncalm\ngive 1\nsee\ncalm\n", "1 kept closed - -", "free 0 1 1", "1 kept closed - -", "free 0 1 1")
	text := ""
	for at, step := range lifeLines() {
		text += step[0] + "\n"
		if at < 7 {
			mustTell(t, ones, text+"give 1\ncalm\n", "1 left undone - -", "free 1 1 1")
			mustTell(t, ones, text+"give 1\nforce 0\nfall 0 0\nfall 1 0\ncalm\ngive 1\ncalm\n", "1 left undone - -", "free 1 1 1")
			continue
		}
		mustTell(t, ones, text+"give 1\nsee\ncalm\n", step[1], freeBehind(step[1]), "1 kept closed - -", "free 0 1 1")
	}
	for _, many := range wanted() {
		line := lineOf(evBegin(many...))
		mustTell(t, ones, line+"\ngive 1\ncalm\n", tripLine(1, "left", many, "undone"), "free 1 1 1")
	}
}

func TestP101WhatIsNone(t *testing.T) {
	mustTell(t, ones, "hello\n", "what", "free 1 1 1")
	mustTell(t, ones, "words\n", "0", "free 1 1 1")
	mustTell(t, ones, "begin 1 1 1\nwords\n", "0", "1 asked - - -", "free 1 1 1")
	mustTell(t, ones, "begin 1 1 1\nforce 0\nfall 0 0\nwords\n", "0", "1 asked - - -", "free 1 1 1")
	mustTell(t, ones, strings.Repeat("x", 601), "too long")
	mustTell(t, []int{1, 1}, "words\n", "no world")
	mustTell(t, []int{1, 1, 10}, "words\n", "no world")
	mustTell(t, nil, strings.Repeat("x", 601), "no world")
}

func TestP102WordsToEachHouse(t *testing.T) {
	rooms := []int{3, 3, 3}
	for _, many := range wanted() {
		begin := lineOf(evBegin(many...)) + "\n"
		asked := tripLine(1, "asked", many, "-")
		var holds, undos, closes []string
		for i, n := range many {
			if n > 0 {
				holds = append(holds, fmt.Sprintf("hold %d 1 %d", i+1, n))
				closes = append(closes, fmt.Sprintf("close %d 1", i+1))
				undos = append(undos, fmt.Sprintf("undo %d 1", i+1))
			}
		}
		count := fmt.Sprint(len(holds))
		mustTell(t, rooms, begin+"words\n", "0", asked, "free 3 3 3")
		mustTell(t, rooms, begin+"force 0\nwords\n", append(holds, count, asked, "free 3 3 3")...)
		mustTell(t, rooms, begin+"force 0\ngive 1\nforce 0\nwords\n", append(undos, count, tripLine(1, "no", many, "-"), "free 3 3 3")...)
		mustTell(t, rooms, begin+"calm\nwords\n", "0", tripLine(1, "kept", many, "closed"), fmt.Sprintf("free %d %d %d", 3-many[0], 3-many[1], 3-many[2]))
		yes := begin + "force 0\n"
		for range holds {
			yes += "say 0\nbring 0\nforce 1\nforce 2\nforce 3\nsay 0\nbring 0\nbring 0\n"
		}
		mustTell(t, rooms, yes+"force 0\nwords\n", append(closes, count, tripLine(1, "yes", many, "held"), fmt.Sprintf("free %d %d %d", 3-many[0], 3-many[1], 3-many[2]))...)
	}
	mustTell(t, rooms, "begin 1 0 2\nbegin 0 3 0\nforce 0\nbegin 1 1 1\ngive 2\nwords\n",
		"hold 1 1 1", "hold 3 1 2", "hold 2 2 3", "3", "1 asked - - -", "2 no - - -", "3 asked - - -", "free 3 3 3")
}

// headMax is how many bytes lines may have behind which some more are to come.
const headMax = 570

func TestP103ToldTheSameInTheEnd(t *testing.T) {
	t.Parallel()
	eachText(103, 200, func(rooms []int, text string) {
		text = firstLines(text, headMax)
		told, end := impl.LinesRun(rooms, text), endTold(t, rooms, text)
		head := strings.TrimSuffix(told, end)
		if got := impl.LinesRun(rooms, text+"see\n"); got != told+end {
			t.Fatalf("%v %q: %q", rooms, text, got)
		}
		if got := impl.LinesRun(rooms, text+"what\n"); got != head+"what\n"+end {
			t.Fatalf("%v %q: %q", rooms, text, got)
		}
		words := impl.LinesRun(rooms, text+"words\n")
		if !strings.HasPrefix(words, head) || !strings.HasSuffix(words, "\n"+end) && words != head+end {
			t.Fatalf("%v %q: %q", rooms, text, words)
		}
		if got := impl.LinesRun(rooms, text+"see\nwords\n\nsee\n"); !strings.HasPrefix(got, head+end) || !strings.HasSuffix(got, "what\n"+end+end) {
			t.Fatalf("%v %q: %q", rooms, text, got)
		}
	})
}

func TestP104TheFirstOneIsKept(t *testing.T) {
	two := "begin 1 0 0\nbegin 1 0 0\n"
	first := []string{"1 kept closed - -", "2 left undone - -", "free 0 1 1"}
	second := []string{"1 left undone - -", "2 kept closed - -", "free 0 1 1"}
	for _, ahead := range []string{"", "force 0\n", "force 0\nsay 0\nsay 1\n", "force 0\nsay 0\nbring 0\n", "force 0\nfall 0 0\nfall 1 0\n"} {
		mustTell(t, ones, two+ahead+"calm\n", first...)
	}
	mustTell(t, ones, two+"give 1\ncalm\n", second...)
	mustTell(t, ones, two+"give 1\nforce 0\ncalm\n", second...)
	mustTell(t, ones, two+"force 0\ngive 1\nforce 0\ncalm\n", second...)
	mustTell(t, ones, "begin 1 0 0\ngive 1\nbegin 1 0 0\ncalm\n", second...)
	mustTell(t, ones, two+"give 2\ncalm\n", first...)
	mustTell(t, ones, two+"give 1\ngive 2\ncalm\n", "1 left undone - -", "2 left undone - -", "free 1 1 1")
	// The second one's hold comes ahead.
	mustTell(t, ones, two+"force 0\nsay 1\nbring 0\ncalm\n", second...)
}

func TestP105CalmTwiceIsCalmOnce(t *testing.T) {
	t.Parallel()
	ends := 0
	eachText(105, 300, func(rooms []int, text string) {
		text = firstLines(text, headMax)
		once := impl.LinesRun(rooms, text+"calm\n")
		if got := impl.LinesRun(rooms, text+"calm\ncalm\n"); got != once {
			t.Fatalf("%v %q: %q", rooms, text, got)
		}
		// All trips ended, and there is nothing to say any more.
		end := endTold(t, rooms, text+"calm\n")
		if strings.Contains(end, "asked") || strings.Contains(end, "yes") || strings.Contains(end, "no") || strings.Contains(end, "held") {
			t.Fatalf("%v %q: %q", rooms, text, end)
		}
		if got := impl.LinesRun(rooms, text+"calm\nwords\n"); !strings.HasSuffix(got, "0\n"+end) {
			t.Fatalf("%v %q: %q", rooms, text, got)
		}
		ends += strings.Count(end, "\n") - 1
	})
	if ends < 300 {
		t.Error("hardly any trip:", ends)
	}
}

// A trip that is not even forced takes five rounds to its end.
func TestACalmOfLinesIsLongEnough(t *testing.T) {
	text := "begin 1 1 1\nbegin 1 0 0\n"
	w := played(ones, []impl.Event{evBegin(1, 1, 1), evBegin(1, 0, 0)}).world
	if got, want := impl.LinesRun(ones, text+"calm\n"), tripsTold(impl.WorldCalm(w, 9)); got != want || want == tripsTold(impl.WorldCalm(w, 4)) {
		t.Error(got, want)
	}
	mustTell(t, ones, text+"calm\n", "1 kept closed closed closed", "2 left undone - -", "free 0 0 0")
	for _, many := range wanted() {
		mustTellByDocument(t, []int{2, 2, 2}, linesOf(lineOf(evBegin(many...)), "begin 1 2 0", "force 0", "say 0", "calm", "see", "begin 0 2 1", "begin 2 2 2", "calm", "words"))
	}
}

// As many trips as there can be, and one more.
func TestLinesOfAllTrips(t *testing.T) {
	rooms := []int{9, 2, 1}
	six := linesOf("begin 3 0 0", "begin 0 2 0", "begin 0 0 1", "begin 3 1 0", "begin 3 0 0", "begin 0 0 2")
	mustTell(t, rooms, six+"begin 1 0 0\ngive 7\ngive 5\n",
		"1 asked - - -", "2 asked - - -", "3 asked - - -", "4 asked - - -", "5 no - - -", "6 asked - - -", "free 9 2 1")
	mustTell(t, rooms, six+"begin 1 0 0\ngive 5\ncalm\nbegin 1 0 0\n",
		"1 kept closed - -", "2 kept - closed -", "3 kept - - closed", "4 left undone undone -", "5 left undone - -", "6 left - - undone", "free 6 0 0")
}

// `see` in the midst of a text tells what is written down then, forced or not, desk and houses being up or down.
func TestSeeInTheMidst(t *testing.T) {
	mustTell(t, []int{2, 1, 0}, linesOf(
		"see", "begin 1 1 0", "see", "fall 1 0", "fall 2 0", "fall 3 0", "see", "force 0", "fall 0 0", "see", "rise 0", "rise 1", "say 1", "say 0", "bring 1", "see", "bring 0", "rise 2",
		"begin 1 0 1", "give 2", "see", "say 1", "bring 0", "see", "fall 1", "see"),
		"free 2 1 0",
		"1 asked - - -", "free 2 1 0",
		"1 asked - - -", "free 2 1 0",
		"1 asked - - -", "free 2 1 0",
		"1 asked held - -", "free 1 1 0",
		"1 asked held - -", "2 no - - -", "free 1 1 0",
		"1 asked held held -", "2 no - - -", "free 1 0 0",
		"1 asked - held -", "2 no - - -", "free 2 0 0",
		"1 asked - held -", "2 no - - -", "free 2 0 0")
}
