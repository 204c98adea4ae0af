package tests

import (
	"math"
	"strconv"
	"testing"

	"loop.example/concierge/impl"
)

// wordKinds are the kinds of words, in their order, each with its word.
var wordKinds = []struct {
	kind int
	name string
}{
	{1, "hold"}, {2, "close"}, {3, "undo"}, {4, "held"}, {5, "full"}, {6, "closed"}, {7, "undone"},
}

// okWordTexts is the text of every word in form, put together without the program.
func okWordTexts() map[string]impl.Word {
	out := map[string]impl.Word{}
	for _, k := range wordKinds {
		for house := 1; house <= 3; house++ {
			for trip := 1; trip <= 6; trip++ {
				text := k.name + " " + strconv.Itoa(house) + " " + strconv.Itoa(trip)
				w := impl.Word{Kind: k.kind, House: house, Trip: trip}
				if k.kind != 1 {
					out[text] = w
					continue
				}
				for many := 1; many <= 3; many++ {
					w.Many = many
					out[text+" "+strconv.Itoa(many)] = w
				}
			}
		}
	}
	return out
}

// okWords is every word in form, once.
func okWords() []impl.Word {
	var out []impl.Word
	for _, w := range okWordTexts() {
		out = append(out, w)
	}
	return out
}

// badWords is words each of which is not in form for one reason.
func badWords() []impl.Word {
	out := []impl.Word{{}}
	for _, kind := range []int{math.MinInt, -256, -7, -1, 0, 8, 9, 256, 257, math.MaxInt} {
		out = append(out, impl.Word{Kind: kind, House: 1, Trip: 1}, impl.Word{Kind: kind, House: 1, Trip: 1, Many: 1})
	}
	for _, k := range wordKinds {
		many := 0
		if k.kind == 1 {
			many = 1
		}
		for _, house := range []int{math.MinInt, -3, -1, 0, 4, 257, math.MaxInt} {
			out = append(out, impl.Word{Kind: k.kind, House: house, Trip: 1, Many: many})
		}
		for _, trip := range []int{math.MinInt, -6, -1, 0, 7, 257, math.MaxInt} {
			out = append(out, impl.Word{Kind: k.kind, House: 1, Trip: trip, Many: many})
		}
		for _, wrong := range []int{math.MinInt, -1, 4, 256, 257, math.MaxInt, 1 - many, 2 * (1 - many), 3 * (1 - many)} {
			out = append(out, impl.Word{Kind: k.kind, House: 3, Trip: 6, Many: wrong})
		}
	}
	return out
}

// wordOkByDocument says once more what the document does, with its numbers written out.
func wordOkByDocument(w impl.Word) bool {
	if w.House < 1 || w.House > 3 || w.Trip < 1 || w.Trip > 6 {
		return false
	}
	switch w.Kind {
	case 1:
		return w.Many == 1 || w.Many == 2 || w.Many == 3
	case 2, 3, 4, 5, 6, 7:
		return w.Many == 0
	}
	return false
}

// mustReadWord holds WordRead of one text against all texts that there are.
func mustReadWord(t *testing.T, texts map[string]impl.Word, text string) {
	t.Helper()
	want, there := texts[text]
	got, ok := impl.WordRead(text)
	if ok != there || got != want {
		t.Fatalf("%q: %v, %v, not %v, %v", text, got, ok, want, there)
	}
	if ok && (!impl.WordOk(got) || impl.WordText(got) != text) {
		t.Fatalf("%q: %v, %q", text, got, impl.WordText(got))
	}
}

// mustNotReadWord fails if a text is read, or anything stands beside the false.
func mustNotReadWord(t *testing.T, text string) {
	t.Helper()
	if got, ok := impl.WordRead(text); ok || got != (impl.Word{}) {
		t.Errorf("%q: %v, %v", text, got, ok)
	}
}
