package tests

import (
	"math/rand/v2"
	"strings"
	"testing"

	"loop.example/concierge/impl"
)

func TestP26OneByteOfAWordChanged(t *testing.T) {
	texts := okWordTexts()
	for text := range texts {
		for at := range len(text) + 1 {
			for b := range 256 {
				other := string([]byte{byte(b)})
				mustReadWord(t, texts, text[:at]+other+text[at:])
				if at < len(text) {
					mustReadWord(t, texts, text[:at]+other+text[at+1:])
				}
			}
			if at < len(text) {
				mustReadWord(t, texts, text[:at]+text[at+1:])
			}
			mustReadWord(t, texts, text[:at])
			mustReadWord(t, texts, text[at:])
		}
	}
}

func TestP26NearlyRightWords(t *testing.T) {
	near := []string{
		"", " ", "  ", "   ", "    ", "0", "1", "1 1", "1 1 1", "1 1 1 1", " 1 1", " 1 1 1", "0 1 1", "2 1 1", "7 1 1",
		"hold", "hold ", "hold 1", "hold 1 ", "hold 1 1", "hold 1 1 ", "hold 1 1 0", "hold 1 1 4", "hold 1 1 1 1", "hold 1 1 1 0", "hold 1 1 1 x",
		"hold 0 1 1", "hold 4 1 1", "hold 1 0 1", "hold 1 7 1", "hold 10 1 1", "hold 1 10 1", "hold 1 1 10", "hold 1 1 9", "hold 9 9 9",
		"hold 01 1 1", "hold 1 01 1", "hold 1 1 01", "hold 1 1 001", "hold 00 1 1", "hold 1 1 00",
		"hold +1 1 1", "hold 1 +1 1", "hold 1 1 +1", "hold -1 1 1", "hold 1 -1 1", "hold 1 1 -1", "hold 1 1 -0", "hold - 1 1", "hold 1 1 +",
		"hold  1 1 1", "hold 1  1 1", "hold 1 1  1", " hold 1 1 1", "hold 1 1 1 ", "  hold 1 1 1", "hold 1 1 1  ", "hold1 1 1", "hold 11 1", "hold 1 11",
		"hold\t1 1 1", "hold 1\t1 1", "hold 1 1\t1", "hold 1 1\n1", "hold 1 1 1\n", "\nhold 1 1 1", "hold 1 1 1\t", "hold 1 1 1\r", "hold\v1 1 1", "hold\f1 1 1",
		"hold\u00a01 1 1", "hold 1\u20091 1", "hold 1\u30001 1", "hold\u00851 1 1", "hold 1 1 1\x00", "hold 1 \x00 1", "\xff\xfe 1 1", "hold 1 1 \xff",
		"hold \u0661 1 1", "hold 1 \uff11 1", "ｈold 1 1 1", "Hold 1 1 1", "HOLD 1 1 1", "holD 1 1 1", "holds 1 1 1", "hol 1 1 1", "old 1 1 1",
		"hold 1 1 0x1", "hold 1 1 1_", "hold 1 1_1", "hold 1 1 1.0", "hold 1 1 1e0", "hold 1 1 one", "hold a 1 1", "hold 1 b 1", "hold,1,1,1", "hold 1,1,1",
		"close", "close 1", "close 1 ", "close 1 7", "close 0 1", "close 4 1", "close 1 0", "close 1 1 1", "close 1 1 0", "close 1 1 ", "close  1 1", "Close 1 1",
		"undo  1 1", "undo 1 1 1", "undo 1 1 0", "undo 3 7", "undo 4 6", "undo 01 1", "undo 1 +1", "UNDO 1 1",
		"held 4 1", "held 1 1 1", "held 1 1 0", "held 1", "held 1 7", "held 0 0", "held\n1 1", "Held 1 1",
		"full 1 1 1", "full 1 1 0", "full 1 1 3", "full 1", "full  1 1", "full 4 7", "full -1 1", "fulL 1 1",
		"closed 1 1 1", "closed 1 1 0", "closed 1", "closed 1 7", "closed1 1", "close d 1 1", "closedd 1 1", "CLOSED 1 1",
		"undone 1 1 1", "undone 1 1 0", "undone 1", "undone 4 1", "undone 1 01", "undo ne 1 1", "undone 3 6 ", "UnDone 1 1",
		"begin 1 1", "begin 1 1 1", "begin 1 1 1 1", "yes 1 1", "no 1 1", "end 1 1", "none 1 1", "word 1 1", "free 1 1", "kept 1 1", "hold close 1 1",
		"close 257 1", "close 1 257", "close 65537 1", "close 1 4294967297", "hold 1 1 4294967297", "no 18446744073709551617",
		"held 1 18446744073", "held 1 184467440737095", "close 1 1;close 1 1", "full 1 1full 1 1", "full 1 1\x00full 1 1", "full 1 1 full 1 1",
	}
	texts := okWordTexts()
	for _, text := range near {
		if _, there := texts[text]; there {
			t.Fatalf("%q is right", text)
		}
		mustNotReadWord(t, text)
	}
}

func TestP26LongTextsOfWords(t *testing.T) {
	texts := okWordTexts()
	for text := range texts {
		word, rest, _ := strings.Cut(text, " ")
		for size := len(text) + 1; size <= 24; size++ {
			more := size - len(text)
			for _, b := range []string{" ", "0", "1", "\t", "\x00"} {
				mustReadWord(t, texts, text+strings.Repeat(b, more))
				mustReadWord(t, texts, strings.Repeat(b, more)+text)
				mustReadWord(t, texts, word+strings.Repeat(b, more)+" "+rest)
				mustReadWord(t, texts, word+" "+strings.Repeat(b, more)+rest)
			}
		}
	}
	for _, piece := range []string{"hold", "1", " ", "1 ", "full 1 1 ", "hold 1 1 1 ", "\x00", "\xff", "0"} {
		for _, times := range []int{5, 20, 21, 100000} {
			mustReadWord(t, texts, strings.Repeat(piece, times))
			mustReadWord(t, texts, "hold 1 1 1"+strings.Repeat(piece, times))
			mustReadWord(t, texts, strings.Repeat(piece, times)+"hold 1 1 1")
		}
	}
}

// All short lists of these pieces, so that no cut of a text is left untried.
func TestP26AllWordsOfFewPieces(t *testing.T) {
	texts := okWordTexts()
	pieces := []string{"hold", "close", "undo", "held", "full", "closed", "undone", "begin", " ", " 0", " 1", " 3", " 4", " 6", " 7", "1"}
	var grow func(text string, left int)
	grow = func(text string, left int) {
		mustReadWord(t, texts, text)
		if left == 0 {
			return
		}
		for _, p := range pieces {
			grow(text+p, left-1)
		}
	}
	grow("", 5)
}

// Bytes of which words are made, thrown together, up to and past the size that is read at all.
func TestP26WordsOfThrownBytes(t *testing.T) {
	texts := okWordTexts()
	dice := rand.New(rand.NewPCG(26, 1))
	const bytes = "hold hedfulcsn 0123467 \t\n+-H"
	for range 200000 {
		text := make([]byte, dice.IntN(24))
		for i := range text {
			text[i] = bytes[dice.IntN(len(bytes))]
		}
		mustReadWord(t, texts, string(text))
	}
}

// A record's text has fewer numbers than a word's of the same name, so none is both.
func TestP26TextsOfRecordsAreNoWords(t *testing.T) {
	texts := okWordTexts()
	for text := range okTexts() {
		mustReadWord(t, texts, text)
		mustNotReadWord(t, text)
	}
	for text := range texts {
		if r, ok := impl.RecRead(text); ok || !isNoRec(r) {
			t.Errorf("%q: %v", text, r)
		}
	}
}

func TestP26WordsOfWrongNumbers(t *testing.T) {
	texts := okWordTexts()
	numbers := []string{"-1", "0", "1", "2", "3", "4", "6", "7", "10", "01", "+1", "", "x", "999999999999"}
	for _, k := range wordKinds {
		for _, house := range numbers {
			mustReadWord(t, texts, k.name+" "+house)
			for _, trip := range numbers {
				mustReadWord(t, texts, k.name+" "+house+" "+trip)
				for _, many := range numbers {
					mustReadWord(t, texts, k.name+" "+house+" "+trip+" "+many)
					mustReadWord(t, texts, k.name+" "+house+" "+trip+" "+many+" 1")
				}
			}
		}
	}
}

func TestP29LastByteOfAWordGoneOrBlankMore(t *testing.T) {
	for text, w := range okWordTexts() {
		short := text[:len(text)-1]
		if got, ok := impl.WordRead(short); ok && (got == w || impl.WordText(got) != short) {
			t.Errorf("%q: %v", short, got)
		}
		mustNotReadWord(t, short)
		for at := range len(text) + 1 {
			mustNotReadWord(t, text[:at]+" "+text[at:])
		}
	}
}
