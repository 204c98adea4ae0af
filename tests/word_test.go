package tests

import (
	"slices"
	"testing"

	"loop.example/concierge/impl"
)

func TestKindsOfWords(t *testing.T) {
	got := []int{impl.WordHold, impl.WordClose, impl.WordUndo, impl.WordHeld, impl.WordFull, impl.WordClosed, impl.WordUndone}
	if !slices.Equal(got, []int{1, 2, 3, 4, 5, 6, 7}) {
		t.Error(got)
	}
}

func TestWordOkAtAllEdges(t *testing.T) {
	for _, kind := range append([]int{9}, edgeInts...) {
		for _, house := range edgeInts {
			for _, trip := range edgeInts {
				for _, many := range edgeInts {
					w := impl.Word{Kind: kind, House: house, Trip: trip, Many: many}
					if impl.WordOk(w) != wordOkByDocument(w) {
						t.Fatal(w, impl.WordOk(w))
					}
				}
			}
		}
	}
}

func TestWordOkOfHousesTripsAndKinds(t *testing.T) {
	for _, k := range wordKinds {
		many := 0
		if k.kind == impl.WordHold {
			many = 1
		}
		for house, want := range map[int]bool{-1: false, 0: false, 1: true, 2: true, 3: true, 4: false} {
			if impl.WordOk(impl.Word{Kind: k.kind, House: house, Trip: 1, Many: many}) != want {
				t.Error(k.name, "of house", house)
			}
		}
		for trip, want := range map[int]bool{-1: false, 0: false, 1: true, 5: true, 6: true, 7: false} {
			if impl.WordOk(impl.Word{Kind: k.kind, House: 1, Trip: trip, Many: many}) != want {
				t.Error(k.name, "of trip", trip)
			}
		}
	}
	for kind := -9; kind <= 16; kind++ {
		for many := -1; many <= 4; many++ {
			want := kind == 1 && many >= 1 && many <= 3 || kind >= 2 && kind <= 7 && many == 0
			if impl.WordOk(impl.Word{Kind: kind, House: 2, Trip: 2, Many: many}) != want {
				t.Error("kind", kind, "of", many)
			}
		}
	}
}

func TestP25WordsInFormAreReadBack(t *testing.T) {
	for _, w := range okWords() {
		text := impl.WordText(w)
		back, ok := impl.WordRead(text)
		if !impl.WordOk(w) || !ok || back != w {
			t.Errorf("%v: %q, %v, %v", w, text, back, ok)
		}
	}
}

func TestP25TextsOfWordsAreAsTheDocumentSays(t *testing.T) {
	texts := okWordTexts()
	if len(texts) != 3*6*(3+6) {
		t.Fatal(len(texts))
	}
	for text, w := range texts {
		if impl.WordText(w) != text {
			t.Errorf("%v: %q, not %q", w, impl.WordText(w), text)
		}
		mustReadWord(t, texts, text)
	}
	written := map[string]impl.Word{
		"hold 1 6 3": {Kind: impl.WordHold, House: 1, Trip: 6, Many: 3},
		"close 2 5":  {Kind: impl.WordClose, House: 2, Trip: 5},
		"undo 3 4":   {Kind: impl.WordUndo, House: 3, Trip: 4},
		"held 1 3":   {Kind: impl.WordHeld, House: 1, Trip: 3},
		"full 2 2":   {Kind: impl.WordFull, House: 2, Trip: 2},
		"closed 3 1": {Kind: impl.WordClosed, House: 3, Trip: 1},
		"undone 3 6": {Kind: impl.WordUndone, House: 3, Trip: 6},
		"hold 3 1 1": {Kind: impl.WordHold, House: 3, Trip: 1, Many: 1},
		"undone 1 1": {Kind: impl.WordUndone, House: 1, Trip: 1},
	}
	for text, w := range written {
		if got, ok := impl.WordRead(text); !ok || got != w || impl.WordText(w) != text {
			t.Errorf("%q: %v, %v, %q", text, got, ok, impl.WordText(w))
		}
	}
}

func TestTextOfWordsThatAreNotInFormIsEmpty(t *testing.T) {
	for _, w := range badWords() {
		if impl.WordOk(w) || impl.WordText(w) != "" {
			t.Errorf("%v: %v, %q", w, impl.WordOk(w), impl.WordText(w))
		}
	}
}

func TestP27TextsAreTheSameJustIfWordsAre(t *testing.T) {
	words := okWords()
	for _, a := range words {
		for _, b := range words {
			if (impl.WordText(a) == impl.WordText(b)) != (a == b) {
				t.Errorf("%v, %v", a, b)
			}
		}
	}
}

func TestP28JustTheHoldTellsHowMany(t *testing.T) {
	for _, w := range okWords() {
		if (w.Many != 0) != (w.Kind == impl.WordHold) {
			t.Fatal(w)
		}
		for _, many := range append([]int{9}, edgeInts...) {
			other := w
			other.Many = many
			want := many == 0
			if w.Kind == impl.WordHold {
				want = many >= 1 && many <= 3
			}
			if impl.WordOk(other) != want {
				t.Errorf("%v with %d", w, many)
			}
		}
		for kind := -1; kind <= 9; kind++ {
			other := w
			other.Kind = kind
			want := kind == w.Kind || w.Kind != impl.WordHold && kind >= 2 && kind <= 7
			if impl.WordOk(other) != want {
				t.Errorf("%v as %d", w, kind)
			}
		}
	}
}

func TestP28OfAnotherHouseOrTrip(t *testing.T) {
	for _, w := range okWords() {
		for _, n := range append([]int{9}, edgeInts...) {
			house, trip := w, w
			house.House, trip.Trip = n, n
			if impl.WordOk(house) != (n >= 1 && n <= 3) {
				t.Errorf("%v of house %d", w, n)
			}
			if impl.WordOk(trip) != (n >= 1 && n <= 6) {
				t.Errorf("%v of trip %d", w, n)
			}
		}
	}
}
