package tests

import (
	"math/rand/v2"
	"slices"
	"strconv"
	"strings"
	"testing"

	"loop.example/concierge/impl"
)

// ones is rooms of one each.
var ones = []int{1, 1, 1}

func TestRoomsOfNoWorld(t *testing.T) {
	for _, rooms := range badRooms() {
		for _, text := range []string{"", "see\n", "what\n", "begin 1 1 1\ncalm\n", "no line", strings.Repeat("\n", 600), strings.Repeat("\n", 601), strings.Repeat("x", 100000)} {
			mustTell(t, rooms, text, "no world")
		}
	}
}

func TestTextsUpToTheLimitAndOneByteMore(t *testing.T) {
	long := strings.Repeat("what\n", 120)
	for _, c := range []struct {
		text  string
		whats int
	}{
		{long, 120},
		{long[:599], 119},
		{strings.Repeat("\n", 600), 600},
		{strings.Repeat("x", 600), 0},
		{strings.Repeat(" ", 600), 0},
		{strings.Repeat("x", 599) + "\n", 1},
		// Of fewer runes than bytes.
		{strings.Repeat("ä", 300), 0},
		{strings.Repeat("ä\n", 200), 200},
		{strings.Repeat("\xff", 599) + "\n", 1},
	} {
		want := slices.Repeat([]string{"what"}, c.whats)
		mustTell(t, ones, c.text, append(want, "free 1 1 1")...)
		mustTell(t, ones, c.text+strings.Repeat("\n", 601-len(c.text)), "too long")
	}
	for _, text := range []string{strings.Repeat("ä", 301), strings.Repeat("see\n", 151), strings.Repeat("x", 601), strings.Repeat("calm\n", 100000)} {
		mustTell(t, ones, text, "too long")
	}
	mustTell(t, ones, strings.Repeat("see\n", 150), slices.Repeat([]string{"free 1 1 1"}, 151)...)
	mustTell(t, ones, strings.Repeat("calm\n", 120), "free 1 1 1")
	mustTell(t, ones, strings.Repeat("words\n", 100), append(slices.Repeat([]string{"0"}, 100), "free 1 1 1")...)
	mustTell(t, []int{9, 9, 9}, "begin 3 3 3\n"+strings.Repeat("force 0\n", 73)+"see\n", "1 asked - - -", "free 9 9 9", "1 asked - - -", "free 9 9 9")
}

// Lines are no play: more of them than PlayMax are done.
func TestMoreLinesThanAPlayHasEvents(t *testing.T) {
	mustTell(t, ones, strings.Repeat("say 0\n", 88)+"begin 1 0 0\ncalm\nbegin 0 1 0\n", "1 kept closed - -", "2 asked - - -", "free 0 1 1")
}

func TestWhatStandsBehindTheLastNewlineDoesNotCount(t *testing.T) {
	mustTell(t, ones, "", "free 1 1 1")
	for _, line := range []string{"see", "words", "what", "calm", "begin 1 1 1", " ", "  see", "\r", "\x00"} {
		mustTell(t, ones, line, "free 1 1 1")
	}
	mustTell(t, ones, "see\nsee", "free 1 1 1", "free 1 1 1")
	mustTell(t, ones, "begin 1 0 0\nbegin 0 1 0", "1 asked - - -", "free 1 1 1")
	mustTell(t, ones, "begin 1 0 0\nbegin 0 1 0\n", "1 asked - - -", "2 asked - - -", "free 1 1 1")
	mustTell(t, ones, "begin 1 0 0\ncalm", "1 asked - - -", "free 1 1 1")
	mustTell(t, ones, "what\nwhat", "what", "free 1 1 1")
	mustTell(t, ones, "\nwords", "what", "free 1 1 1")
}

// Behind any text what follows its last newline, a piece of a line that could be one, tells nothing.
func TestTextsThatDoNotEndInANewline(t *testing.T) {
	t.Parallel()
	eachText(311, 25, func(rooms []int, text string) {
		whole := ""
		for line := range strings.Lines(text) {
			told := impl.LinesRun(rooms, whole)
			for _, end := range []int{len(line) / 2, len(line) - 1} {
				if got := impl.LinesRun(rooms, whole+line[:end]); got != told {
					t.Fatalf("%v %q", rooms, whole+line[:end])
				}
			}
			whole += line
		}
	})
}

func TestEmptyLinesAndBlanks(t *testing.T) {
	for _, line := range []string{"", " ", "  ", strings.Repeat(" ", 100)} {
		mustTell(t, ones, line+"\n", "what", "free 1 1 1")
		mustTell(t, ones, line+"\nbegin 1 0 0\n"+line+"\nsee\n"+line+"\n", "what", "what", "1 asked - - -", "free 1 1 1", "what", "1 asked - - -", "free 1 1 1")
	}
	mustTell(t, ones, "\n\n\n", "what", "what", "what", "free 1 1 1")
	for _, line := range []string{" begin 1 0 1", "   begin 1 0 1", "begin 1 0 1 ", "begin 1 0 1    ", "begin  1 0 1", "begin 1   0    1", "  begin  1  0  1  "} {
		mustTell(t, ones, line+"\n", "1 asked - - -", "free 1 1 1")
	}
	for _, line := range []string{" see", "see ", "   see   "} {
		mustTell(t, ones, line+"\n", "free 1 1 1", "free 1 1 1")
	}
	for _, line := range []string{" words", "words ", "   words   "} {
		mustTell(t, ones, line+"\n", "0", "free 1 1 1")
	}
	for _, line := range []string{" calm", "calm ", "   calm   "} {
		mustTell(t, ones, "begin 0 1 0\n"+line+"\n", "1 kept - closed -", "free 1 0 1")
	}
	mustTell(t, ones, "begin 1 0 0\n  force   0 \nfall  0   0\n", "1 asked - - -", "free 1 1 1")
	mustTell(t, ones, "begin 1 0 0\nfall  0   1\nbegin 1 0 0\n rise  0\n begin  0 0 1\n", "1 asked - - -", "2 asked - - -", "free 1 1 1")
}

// Blanks, as many as one likes, where there is one, and at both ends, change nothing.
func TestMoreBlanksChangeNothing(t *testing.T) {
	t.Parallel()
	dice := rand.New(rand.NewPCG(31, 1))
	blanks := func(least int) string { return strings.Repeat(" ", least+dice.IntN(3)) }
	eachText(312, 300, func(rooms []int, text string) {
		text = firstLines(text, 250)
		wide := ""
		for line := range strings.Lines(text) {
			for at, word := range strings.Split(strings.TrimSuffix(line, "\n"), " ") {
				wide += blanks(min(at, 1)) + word
			}
			wide += blanks(0) + "\n"
		}
		if len(wide) <= 600 && impl.LinesRun(rooms, wide) != impl.LinesRun(rooms, text) {
			t.Fatalf("%v %q %q", rooms, text, wide)
		}
	})
}

func TestFurtherWordsDoNotCount(t *testing.T) {
	for _, behind := range []string{" 1", " 0 0 0", " x", " \t", " \xff\xfe", " -1", " calm", " see 1 2 3 4 5 6", " 1000000000000000000000"} {
		mustTell(t, ones, "begin 1 0 0"+behind+"\n", "1 asked - - -", "free 1 1 1")
		mustTell(t, ones, "see"+behind+"\n", "free 1 1 1", "free 1 1 1")
		mustTell(t, ones, "words"+behind+"\n", "0", "free 1 1 1")
		mustTell(t, ones, "begin 0 1 0\ncalm"+behind+"\n", "1 kept - closed -", "free 1 0 1")
		mustTell(t, ones, "begin 0 1 0\ngive 1"+behind+"\n", "1 no - - -", "free 1 1 1")
		mustTell(t, ones, "begin 0 1 0\nforce 0"+behind+"\nsay 0"+behind+"\nbring 0"+behind+"\n", "1 asked - held -", "free 1 0 1")
		mustTell(t, ones, "begin 0 1 0\nbegin 0 0 1\nfall 0 1"+behind+"\nbegin 1 0 0\n", "1 asked - - -", "free 1 1 1")
		mustTell(t, ones, "fall 0 0\nrise 0"+behind+"\nbegin 1 0 0\n", "1 asked - - -", "free 1 1 1")
		mustTell(t, ones, "what"+behind+"\n", "what", "free 1 1 1")
	}
}

// wrongFirstWords is words that are no first word of a line.
func wrongFirstWords() []string {
	out := []string{
		"what", "no", "world", "lose 0", "twice 0", "hold 1 1 1", "held 1 1", "end", "free", "-", "0", "1", "12",
		"\t", "\r", "\v", "\f", "\x00", "\u00a0", "\u2003", "\u3000", "\ufeff", "\xff", "\xc3", "\x80\x80", "é", "世界", ".", "#", "//", "'", "\"see\"",
		"seesee", "see,see", "see;", "begin,1,1,1", "begin1 1 1", "see\tsee", "-see", "se e", "s ee",
	}
	for _, word := range firstWords {
		out = append(out,
			strings.ToUpper(word), strings.ToUpper(word[:1])+word[1:], word[:len(word)-1]+strings.ToUpper(word[len(word)-1:]),
			word[1:], word[:len(word)-1], word+"s", word+"1", "x"+word, word+word,
			"\t"+word, word+"\t", "\r"+word, word+"\r", word+"\x00", "\u00a0"+word, word+"\u2003", word+"\xff", "\ufeff"+word, word+".")
	}
	return out
}

func TestLinesThatAreNone(t *testing.T) {
	for _, word := range wrongFirstWords() {
		for _, line := range []string{word, word + " 1 1 1", " " + word + "  0", word + " see", word + " calm 1"} {
			mustTell(t, ones, line+"\n", "what", "free 1 1 1")
			mustTell(t, []int{3, 2, 1}, "begin 1 0 0\n"+line+"\nwords\n"+line+"\n", "what", "0", "what", "1 asked - - -", "free 3 2 1")
		}
	}
}

// A tab, or a carriage return, is a part of the word beside it.
func TestTabsAndCarriageReturnsDoNotCut(t *testing.T) {
	mustTell(t, ones, "see\r\n", "what", "free 1 1 1")
	mustTell(t, ones, "see \r\nsee \t\n", "free 1 1 1", "free 1 1 1", "free 1 1 1")
	mustTell(t, ones, "begin 1 0 0\r\nbegin\t1 0 0\nbegin 1\t0 0\nbegin 1 0\t0\nbegin 1 0 0\t\nbegin \t1 0 0\nbegin 1 \t 0 0\n", "what", "free 1 1 1")
	mustTell(t, ones, "begin 1 0 0 \r\nbegin 0 1 0 \t\n", "1 asked - - -", "2 asked - - -", "free 1 1 1")
	mustTell(t, ones, "begin 1 0 0\ngive 1\r\ngive 1\t\ngive \t1\ngive\t1\ngive\v1\n", "what", "what", "1 asked - - -", "free 1 1 1")
	// What is no number of records is kept of none.
	mustTell(t, ones, "begin 1 0 0\nbegin 1 0 0\nfall 0 1\r\n", "free 1 1 1")
	mustTell(t, ones, "begin 1 0 0\nbegin 1 0 0\nfall 0 1 \r\n", "1 asked - - -", "free 1 1 1")
	mustTell(t, ones, "see\rsee\rsee\r", "free 1 1 1")
	for _, space := range []string{"\v", "\f", "\u0085", "\u00a0", "\u2003", "\u3000", "\x00"} {
		mustTell(t, ones, "see"+space+"see\n", "what", "free 1 1 1")
		mustTell(t, ones, "begin 1 1"+space+"1\nbegin"+space+" 1 1 1\n", "what", "free 1 1 1")
	}
}

// numberWord is a word, and the number that it is; -1, if it is none.
type numberWord struct {
	word   string
	number int
}

// numberWords is words of each kind where a line wants a number.
func numberWords() []numberWord {
	out := []numberWord{}
	for n := range 10 {
		out = append(out, numberWord{strconv.Itoa(n), n}, numberWord{"0" + strconv.Itoa(n), n}, numberWord{"00" + strconv.Itoa(n), -1})
	}
	for n := 10; n < 100; n += 3 {
		out = append(out, numberWord{strconv.Itoa(n), n}, numberWord{"0" + strconv.Itoa(n), -1})
	}
	for _, word := range []string{
		"99", "13", "14", "17", "18",
	} {
		n, _ := strconv.Atoi(word)
		out = append(out, numberWord{word, n})
	}
	for _, word := range []string{
		"100", "101", "111", "256", "257", "999", "0000", "1000", "4294967297", "18446744073709551617", "1" + strings.Repeat("0", 40),
		"+1", "+0", "-1", "-0", "+", "-", "--", "+-", "1+", "1-", "+01", "-01", "0x1", "0b1", "0o1", "x1", "1x", "1_", "_1", "0_1", "1.", ".1", "1.0", "1e", "1e0", "1,", ",1", "1/", "/1", ":1", "1:", "1;",
		"a", "aa", "one", "x", "I", "O", "l", "'1", "1'", "1\t", "\t1", "1\r", "\r1", "\t", "\r", "\x00", "\x001", "1\x00", "\xff", "1\xff", "\xb1", "é", "١", "１", "²", "٣٣", "世", "\u00a01", "begin", "see",
	} {
		out = append(out, numberWord{word, -1})
	}
	return out
}

func TestWordsThatAreNumbers(t *testing.T) {
	for _, c := range numberWords() {
		if got := numberByDocument(c.word); got != c.number {
			t.Errorf("%q: %d, not %d", c.word, got, c.number)
		}
	}
}

// asker is a kind of line that wants numbers, in a world where the right ones can be seen in what is told behind it.
type asker struct {
	kind    int
	right   []string
	rooms   []int
	before  string
	behind  string
	numbers func(n []int) impl.Event
}

// askers is each kind of line that wants numbers.
func askers() []asker {
	one := func(kind int) func(n []int) impl.Event {
		return func(n []int) impl.Event { return impl.Event{Kind: kind, A: n[0]} }
	}
	// As many words are to be said as there can be: 18; as many are under way: 14.
	many := strings.Repeat("begin 1 1 1\n", 6) + "force 0\n"
	way := many + "say 15\nsay 4\nsay 11\nsay 0\nsay 7\nsay 2\nsay 9\nsay 17\nsay 12\nsay 5\nsay 8\nsay 16\nsay 1\nsay 13\n"
	held := "begin 1 1 1\nforce 0\nsay 0\nsay 1\nsay 2\nbring 0\nbring 0\nbring 0\n"
	return []asker{
		{1, []string{"3", "0", "2"}, []int{9, 9, 9}, "", "force 0\nwords\n", func(n []int) impl.Event { return impl.Event{Kind: 1, Many: n} }},
		{2, []string{"2"}, []int{9, 9, 9}, many, "see\n", one(2)},
		{3, []string{"10"}, []int{9, 9, 9}, many, "bring 0\nsee\n", one(3)},
		{4, []string{"12"}, []int{9, 9, 9}, way, "see\n", one(4)},
		{7, []string{"2"}, []int{9, 9, 9}, held, "fall 0 0\nfall 1 0\nfall 2 0\nfall 3 0\nsee\n", one(7)},
		{7, []string{"0"}, []int{9, 9, 9}, "begin 1 1 1\n", "words\nfall 0 0\n", one(7)},
		{8, []string{"2", "1"}, []int{9, 9, 9}, "begin 1 1 1\nbegin 1 1 1\nbegin 1 1 1\nforce 0\nsay 1\nsay 4\nsay 7\nbring 0\nbring 0\nbring 0\n", "see\n", func(n []int) impl.Event { return impl.Event{Kind: 8, A: n[0], B: n[1]} }},
		{8, []string{"0", "1"}, []int{9, 9, 9}, "begin 1 1 1\nbegin 2 2 2\nbegin 3 3 3\n", "rise 0\nforce 0\nwords\n", func(n []int) impl.Event { return impl.Event{Kind: 8, A: n[0], B: n[1]} }},
		{9, []string{"2"}, []int{9, 9, 9}, "fall 1 0\nfall 2 0\nfall 3 0\nbegin 1 1 1\nforce 0\nsay 0\nsay 1\nsay 2\n", "bring 0\nbring 0\nbring 0\n", one(9)},
		{9, []string{"0"}, []int{9, 9, 9}, "fall 0 0\n", "begin 1 1 1\nforce 0\nwords\n", one(9)},
	}
}

// mustAsk holds a line with these words in the places of its numbers against the event of those that they are.
func mustAsk(t *testing.T, a asker, words []string) string {
	t.Helper()
	numbers := []int{}
	for at := range a.right {
		word := ""
		if at < len(words) {
			word = words[at]
		}
		numbers = append(numbers, numberByDocument(word))
	}
	w := firstWorld(a.rooms)
	step := func(line string) string {
		var told string
		w, told = lineByDocument(w, line)
		return told
	}
	for line := range strings.Lines(a.before) {
		step(strings.TrimSuffix(line, "\n"))
	}
	w = worldDidByDocument(w, a.numbers(numbers))
	want := ""
	for line := range strings.Lines(a.behind) {
		want += step(strings.TrimSuffix(line, "\n"))
	}
	want += tripsTold(w)
	name := []string{1: "begin", 2: "give", 3: "say", 4: "bring", 7: "force", 8: "fall", 9: "rise"}[a.kind]
	text := a.before + strings.Join(append([]string{name}, words...), " ") + "\n" + a.behind
	got := impl.LinesRun(a.rooms, text)
	if got != want {
		t.Fatalf("%q:\n%s\nnot\n%s", text, got, want)
	}
	return got
}

// Each word in each place of each kind of line where it wants a number.
func TestNumbersInEachPlace(t *testing.T) {
	for _, a := range askers() {
		for at := range a.right {
			told := map[string]bool{}
			for _, c := range numberWords() {
				words := slices.Clone(a.right)
				words[at] = c.word
				told[mustAsk(t, a, words)] = true
			}
			if len(told) < 2 {
				t.Error("no number can be seen:", a.kind, at)
			}
		}
	}
}

func TestAllNumbersFewerNoneAndMore(t *testing.T) {
	for _, a := range askers() {
		right := mustAsk(t, a, a.right)
		for most := range len(a.right) {
			if mustAsk(t, a, a.right[:most]) == right {
				t.Error("a number that is not there does not count:", a.kind, most)
			}
		}
		for _, more := range []string{"0", "1", "9", "99", "100", "-1", "x", "\t"} {
			if mustAsk(t, a, append(slices.Clone(a.right), more)) != right || mustAsk(t, a, append(slices.Clone(a.right), more, "1", more)) != right {
				t.Error("further words count:", a.kind, more)
			}
		}
		zeros := []string{}
		for _, n := range a.right {
			zeros = append(zeros, strings.Repeat("0", 2-len(n))+n)
		}
		if mustAsk(t, a, zeros) != right {
			t.Error("a number of two figures:", a.kind, zeros)
		}
	}
}

// What is told of numbers, written out.
func TestNumbersThatAreNone(t *testing.T) {
	mustTell(t, ones, "begin 01 00 0\n", "1 asked - - -", "free 1 1 1")
	for _, line := range []string{"begin", "begin 1", "begin 1 1", "begin 0 0 0", "begin 4 0 0", "begin 1 1 10", "begin 001 1 1", "begin +1 1 1", "begin 1 -1 1", "begin 1 1 1x", "begin x 1 1 1", "begin 1,1,1", "begin 11 1"} {
		mustTell(t, ones, line+"\n", "free 1 1 1")
	}
	for _, line := range []string{"give", "give 0", "give 2", "give 3", "give 6", "give 7", "give 10", "give 99", "give 001", "give 100", "give +1", "give -1", "give x1", "give 1x", "give x 1", "give one"} {
		mustTell(t, ones, "begin 1 0 0\n"+line+"\n", "1 asked - - -", "free 1 1 1")
	}
	for _, line := range []string{"give 1", "give 01", "give 1 2"} {
		mustTell(t, ones, "begin 1 0 0\n"+line+"\n", "1 no - - -", "free 1 1 1")
	}
	for _, line := range []string{"force", "force 1", "force 2", "force 3", "force 4", "force 99", "force 000", "force -0", "force +0", "force x", "force x 0"} {
		mustTell(t, ones, "begin 1 0 0\n"+line+"\nwords\nfall 0 0\n", "0", "free 1 1 1")
	}
	for _, line := range []string{"force 0", "force 00", "force 0 1", "force 0 x"} {
		mustTell(t, ones, "begin 1 0 0\n"+line+"\nwords\nfall 0 0\n", "hold 1 1 1", "1", "1 asked - - -", "free 1 1 1")
	}
	for _, line := range []string{"fall", "fall 4 1", "fall 10", "fall x 0", "fall -1 0", "fall 000 1", "fall 3 0", "fall 3"} {
		mustTell(t, ones, "begin 1 0 0\n"+line+"\nbegin 0 1 0\n", "1 asked - - -", "2 asked - - -", "free 1 1 1")
	}
	for _, line := range []string{"fall 0", "fall 00 0", "fall 0 0", "fall 0 00", "fall 0 000", "fall 0 001", "fall 0 100", "fall 0 -1", "fall 0 +1", "fall 0 x", "fall 0 1x", "fall 0 x 1"} {
		mustTell(t, ones, "begin 1 0 0\nbegin 0 1 0\n"+line+"\n", "free 1 1 1")
	}
	for _, line := range []string{"fall 0 1", "fall 00 01", "fall 0 1 9"} {
		mustTell(t, ones, "begin 1 0 0\nbegin 0 1 0\n"+line+"\n", "1 asked - - -", "free 1 1 1")
	}
	for _, line := range []string{"fall 0 2", "fall 0 3", "fall 0 09", "fall 0 40", "fall 0 41", "fall 0 99"} {
		mustTell(t, ones, "begin 1 0 0\nbegin 0 1 0\n"+line+"\n", "1 asked - - -", "2 asked - - -", "free 1 1 1")
	}
	for _, line := range []string{"rise", "rise 1", "rise 4", "rise x", "rise 000", "rise -0", "rise x 0"} {
		mustTell(t, ones, "fall 0 0\n"+line+"\nbegin 1 0 0\n", "free 1 1 1")
	}
	mustTell(t, ones, "fall 0 0\nrise 00\nbegin 1 0 0\n", "1 asked - - -", "free 1 1 1")
	asked := "begin 1 1 0\nforce 0\n"
	for _, line := range []string{"say", "say 2", "say 3", "say 10", "say 99", "say 000", "say -0", "say -1", "say x", "say x 0"} {
		mustTell(t, ones, asked+line+"\nbring 0\n", "1 asked - - -", "free 1 1 1")
	}
	mustTell(t, ones, asked+"say 01\nbring 00\n", "1 asked - held -", "free 1 0 1")
	for _, line := range []string{"bring", "bring 1", "bring 2", "bring 10", "bring 99", "bring 000", "bring -0", "bring -1", "bring x", "bring x 0"} {
		mustTell(t, ones, asked+"say 0\n"+line+"\n", "1 asked - - -", "free 1 1 1")
	}
}

// As many words are to be said, and under way, as there can be: those of two figures are reached, and nothing past the end.
func TestNumbersOfTwoFigures(t *testing.T) {
	rooms := []int{9, 9, 9}
	six := strings.Repeat("begin 1 1 1\n", 6) + "force 0\n"
	none := []string{"1 asked - - -", "2 asked - - -", "3 asked - - -", "4 asked - - -", "5 asked - - -", "6 asked - - -"}
	want := func(at int, trip string, free string) []string {
		out := append(slices.Clone(none), free)
		out[at] = trip
		return out
	}
	mustTell(t, rooms, six+"say 17\nbring 0\n", want(5, "6 asked - - held", "free 9 9 8")...)
	mustTell(t, rooms, six+"say 10\nbring 0\n", want(3, "4 asked - held -", "free 9 8 9")...)
	mustTell(t, rooms, six+"say 18\nbring 0\n", want(0, none[0], "free 9 9 9")...)
	crowd := six + strings.Repeat("say 0\n", 12)
	mustTell(t, rooms, crowd+"say 16\nsay 8\nbring 13\n", want(2, "3 asked - - held", "free 9 9 8")...)
	mustTell(t, rooms, crowd+"say 16\nsay 8\nbring 12\n", want(5, "6 asked - held -", "free 9 8 9")...)
	mustTell(t, rooms, crowd+"say 16\nsay 8\nbring 14\n", want(0, none[0], "free 9 9 9")...)
	// One more is lost.
	mustTell(t, rooms, crowd+"say 16\nsay 8\nsay 4\nbring 14\n", want(0, none[0], "free 9 9 9")...)
	mustTell(t, rooms, crowd+"say 0\nsay 0\nsay 4\nbring 0\nbring 12\nbring 11\n", want(0, "1 asked held - -", "free 8 9 9")...)
}
