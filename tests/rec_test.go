package tests

import (
	"math"
	"slices"
	"strings"
	"testing"

	"loop.example/concierge/impl"
)

func TestLimitsAndKinds(t *testing.T) {
	got := []int{impl.HouseMax, impl.TripMax, impl.ManyMax, impl.LogMax,
		impl.RecHold, impl.RecClose, impl.RecUndo, impl.RecBegin, impl.RecYes, impl.RecNo, impl.RecEnd}
	if !slices.Equal(got, []int{3, 6, 3, 40, 1, 2, 3, 4, 5, 6, 7}) {
		t.Error(got)
	}
}

func TestP1OkRecordsAreReadBack(t *testing.T) {
	for _, r := range okRecs() {
		text := impl.RecText(r)
		back, ok := impl.RecRead(text)
		if !ok || !sameRec(back, r) {
			t.Errorf("%v: %q, %v, %v", r, text, back, ok)
		}
	}
}

func TestP1TextsAreAsTheDocumentSays(t *testing.T) {
	texts := okTexts()
	if len(texts) != 6*(3+63+5) {
		t.Fatal(len(texts))
	}
	for text, r := range texts {
		if impl.RecText(r) != text {
			t.Errorf("%v: %q, not %q", r, impl.RecText(r), text)
		}
	}
}

func TestTextOfWhatIsNotOkIsEmpty(t *testing.T) {
	for _, r := range badRecs() {
		if text := impl.RecText(r); text != "" {
			t.Errorf("%q", text)
		}
	}
}

// mustRead holds RecRead of one text against all texts that there are.
func mustRead(t *testing.T, texts map[string]impl.Rec, text string) {
	t.Helper()
	want, there := texts[text]
	got, ok := impl.RecRead(text)
	if ok != there {
		t.Errorf("%q: %v", text, ok)
	}
	if !ok && !isNoRec(got) {
		t.Errorf("%q: %v beside a false", text, got)
	}
	if ok && (!sameRec(got, want) || !impl.RecOk(got) || impl.RecText(got) != text) {
		t.Errorf("%q: %v", text, got)
	}
}

func TestP2OneByteChanged(t *testing.T) {
	texts := okTexts()
	for text := range texts {
		mustRead(t, texts, text)
		for at := range len(text) + 1 {
			for b := range 256 {
				mustRead(t, texts, text[:at]+string([]byte{byte(b)})+text[at:])
				if at < len(text) {
					mustRead(t, texts, text[:at]+string([]byte{byte(b)})+text[at+1:])
				}
			}
			if at < len(text) {
				mustRead(t, texts, text[:at]+text[at+1:])
			}
		}
	}
}

func TestP2NearlyRightTexts(t *testing.T) {
	texts := okTexts()
	near := []string{
		"", " ", "  ", "0", "1", "hold", "hold ", "hold 1", "hold 1 ", "hold 1 0", "hold 1 4", "hold 0 1", "hold 7 1", "hold 1 1 1",
		"hold 01 1", "hold 1 01", "hold 1 001", "hold 10 1", "hold 1 10", "hold +1 1", "hold 1 +1", "hold -1 1", "hold 1 -1", "hold 1 1.0",
		"hold  1 1", "hold 1  1", " hold 1 1", "hold 1 1 ", "hold1 1", "hold 11", "hold\t1 1", "hold 1\t1", "hold 1\n1", "hold 1 1\n", "\nhold 1 1",
		"Hold 1 1", "HOLD 1 1", "holds 1 1", "hol 1 1", "held 1 1", "hold 1 0x1", "hold 1 1_", "hold 1 _1", "hold 1 1e0", "hold 1 one",
		"hold 1 \xff", "hold \x00 1", "\xff\xfe 1 1", "hold 1 1\x00", "hold 1\u00a01", "hold \u0661 1", "hold \uff11 1", "ｈold 1 1",
		"close", "close ", "close 0", "close 7", "close 01", "close 1 1", "close 1 0", "close -1", "close +1", "close 1 ", "close  1",
		"undo 1 1", "undo 07", "yes 1 1", "yes 0", "no 01", "no 1 0 0 0", "no +1", "end 1 ", "end 1 1", "end 7", "end -0", "none 1",
		"begin 1", "begin 1 1", "begin 1 1 1", "begin 1 0 0 0", "begin 1 1 1 1 1", "begin 7 1 1 1", "begin 0 1 1 1", "begin 1 4 0 0",
		"begin 1 0 0 4", "begin 1 00 0 1", "begin 1 0 0 01", "begin 1 -0 0 1", "begin 1 0 0 -1", "begin 1 1 -1 1", "begin 1  1 1 1",
		" 1", " 1 1", "1 1", "1 1 1", "2 1", "5 1", "hold 18446744073709551617 1", "hold 1 18446744073709551617", "hold 1 4294967297", "close 257",
		"no 9223372036854775807", "no 18446744073709551617", "hold 1 1;hold 1 1", "no 1no 1", "no 1\x00no 1",
	}
	for _, text := range near {
		if _, there := texts[text]; there {
			t.Fatalf("%q is right", text)
		}
		mustRead(t, texts, text)
	}
}

func TestP2LongTexts(t *testing.T) {
	texts := okTexts()
	for text := range texts {
		for size := len(text) + 1; size <= 24; size++ {
			more := size - len(text)
			mustRead(t, texts, text+strings.Repeat(" ", more))
			mustRead(t, texts, strings.Repeat(" ", more)+text)
			mustRead(t, texts, text+strings.Repeat("0", more))
			word, rest, _ := strings.Cut(text, " ")
			mustRead(t, texts, word+" "+strings.Repeat("0", more)+rest)
			mustRead(t, texts, word+strings.Repeat(" ", more)+" "+rest)
		}
	}
	for _, text := range []string{"hold", "1", " ", "no 1 ", "begin 1 1 1 1 ", "\x00", "\xff"} {
		mustRead(t, texts, strings.Repeat(text, 100000))
	}
}

// All short lists of these pieces, so that no cut of a text is left untried.
func TestP2AllTextsOfFewPieces(t *testing.T) {
	texts := okTexts()
	pieces := []string{"hold", "close", "undo", "begin", "yes", "no", "end", " ", "0", "1", "3", "4", "6", "7"}
	var grow func(text string, left int)
	grow = func(text string, left int) {
		mustRead(t, texts, text)
		if left == 0 {
			return
		}
		for _, p := range pieces {
			grow(text+p, left-1)
		}
	}
	grow("", 5)
}

func TestP3TextsAreTheSameJustIfRecordsAre(t *testing.T) {
	recs := okRecs()
	for _, a := range recs {
		for _, b := range recs {
			if (impl.RecText(a) == impl.RecText(b)) != sameRec(a, b) {
				t.Errorf("%v, %v", a, b)
			}
		}
	}
}

func TestNilAndEmptyNumbersAreOneValue(t *testing.T) {
	for kind := -1; kind <= 8; kind++ {
		for trip := 0; trip <= 7; trip++ {
			none := impl.Rec{Kind: kind, Trip: trip}
			empty := impl.Rec{Kind: kind, Trip: trip, Many: []int{}}
			if impl.RecOk(none) != impl.RecOk(empty) || impl.RecText(none) != impl.RecText(empty) {
				t.Error(none)
			}
		}
	}
}

// recOkByDocument says once more what the document does, with its numbers written out.
func recOkByDocument(r impl.Rec) bool {
	if r.Trip < 1 || r.Trip > 6 {
		return false
	}
	switch r.Kind {
	case 1:
		return len(r.Many) == 1 && r.Many[0] >= 1 && r.Many[0] <= 3
	case 4:
		return len(r.Many) == 3 && slices.Min(r.Many) >= 0 && slices.Max(r.Many) <= 3 && slices.Max(r.Many) > 0
	case 2, 3, 5, 6, 7:
		return len(r.Many) == 0
	}
	return false
}

// manyLists is all lists of at most four of a few numbers around the limits.
func manyLists() [][]int {
	values := []int{math.MinInt, -1, 0, 1, 3, 4, math.MaxInt}
	out := [][]int{nil, {}}
	last := [][]int{nil}
	for range 4 {
		var next [][]int
		for _, list := range last {
			for _, v := range values {
				next = append(next, append(slices.Clone(list), v))
			}
		}
		out = append(out, next...)
		last = next
	}
	return out
}

func TestP4RecOk(t *testing.T) {
	lists := manyLists()
	for _, kind := range edgeInts {
		for _, trip := range edgeInts {
			for _, many := range lists {
				r := impl.Rec{Kind: kind, Trip: trip, Many: many}
				if impl.RecOk(r) != recOkByDocument(r) {
					t.Fatal(r)
				}
			}
		}
	}
	for _, r := range okRecs() {
		if !impl.RecOk(r) {
			t.Error(r)
		}
	}
	for i, r := range badRecs() {
		if impl.RecOk(r) {
			t.Error(i)
		}
	}
}

func TestP4NumbersAtAndPastTheirLimits(t *testing.T) {
	for _, n := range edgeInts {
		if impl.RecOk(impl.Rec{Kind: impl.RecHold, Trip: 1, Many: []int{n}}) != (n >= 1 && n <= 3) {
			t.Error("hold", n)
		}
		for at := range 3 {
			alone := make([]int, 3)
			alone[at] = n
			if impl.RecOk(impl.Rec{Kind: impl.RecBegin, Trip: 6, Many: alone}) != (n >= 1 && n <= 3) {
				t.Error("begin", alone)
			}
			among := []int{1, 1, 1}
			among[at] = n
			if impl.RecOk(impl.Rec{Kind: impl.RecBegin, Trip: 6, Many: among}) != (n >= 0 && n <= 3) {
				t.Error("begin", among)
			}
		}
	}
	for size := range 12 {
		many := slices.Repeat([]int{1}, size)
		if impl.RecOk(impl.Rec{Kind: impl.RecHold, Trip: 1, Many: many}) != (size == 1) {
			t.Error("hold of", size)
		}
		if impl.RecOk(impl.Rec{Kind: impl.RecBegin, Trip: 1, Many: many}) != (size == 3) {
			t.Error("begin of", size)
		}
		for _, kind := range plainKinds {
			if impl.RecOk(impl.Rec{Kind: kind, Trip: 1, Many: many}) != (size == 0) {
				t.Error(kind, "of", size)
			}
		}
	}
}

func TestP9LastByteGoneOrBlankMore(t *testing.T) {
	for text, r := range okTexts() {
		short := text[:len(text)-1]
		if got, ok := impl.RecRead(short); ok && (sameRec(got, r) || impl.RecText(got) != short) {
			t.Errorf("%q: %v", short, got)
		}
		for at := range len(text) + 1 {
			long := text[:at] + " " + text[at:]
			if got, ok := impl.RecRead(long); ok || !isNoRec(got) {
				t.Errorf("%q: %v", long, got)
			}
		}
	}
}

func TestP12WhichKindsAreOkAsOthers(t *testing.T) {
	for _, r := range okRecs() {
		for kind := -1; kind <= 9; kind++ {
			other := r
			other.Kind = kind
			want := kind == r.Kind || slices.Contains(plainKinds, r.Kind) && slices.Contains(plainKinds, kind)
			if impl.RecOk(other) != want {
				t.Errorf("%v as %d: not %v", r, kind, want)
			}
		}
	}
}

func TestReadRecordsAreNewMemory(t *testing.T) {
	for text := range okTexts() {
		a, _ := impl.RecRead(text)
		b, _ := impl.RecRead(text)
		mustBeApart(t, recSpans(a), recSpans(b))
		for i := range a.Many[:cap(a.Many)] {
			a.Many[:cap(a.Many)][i] = -5
		}
		if c, ok := impl.RecRead(text); !ok || !sameRec(b, c) {
			t.Errorf("%q: %v, %v", text, b, c)
		}
	}
}

func TestRecordsThatAreAskedStay(t *testing.T) {
	for _, r := range slices.Concat(okRecs(), badRecs()) {
		roomy := roomyRec(r)
		before := recInts(roomy)
		impl.RecOk(roomy)
		impl.RecText(roomy)
		if !slices.Equal(recInts(roomy), before) {
			t.Error(roomy)
		}
	}
}
