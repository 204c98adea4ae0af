package tests

import (
	"math"
	"reflect"
	"slices"
	"strings"
	"testing"

	"loop.example/concierge/impl"
)

// plainKinds are the kinds whose records have no numbers but their trip.
var plainKinds = []int{impl.RecClose, impl.RecUndo, impl.RecYes, impl.RecNo, impl.RecEnd}

// edgeInts are numbers at, around and far past all limits.
var edgeInts = []int{math.MinInt, math.MinInt + 1, -256, -41, -1, 0, 1, 2, 3, 4, 5, 6, 7, 8, 10, 39, 40, 41, 256, 257, math.MaxInt - 1, math.MaxInt}

// wanted is all that a trip can want, by counting.
func wanted() [][]int {
	var out [][]int
	for a := range 4 {
		for b := range 4 {
			for c := range 4 {
				if a+b+c > 0 {
					out = append(out, []int{a, b, c})
				}
			}
		}
	}
	return out
}

// okRecs is every ok record, once.
func okRecs() []impl.Rec {
	var out []impl.Rec
	for trip := 1; trip <= 6; trip++ {
		for many := 1; many <= 3; many++ {
			out = append(out, impl.Rec{Kind: impl.RecHold, Trip: trip, Many: []int{many}})
		}
		for _, many := range wanted() {
			out = append(out, impl.Rec{Kind: impl.RecBegin, Trip: trip, Many: many})
		}
		for _, kind := range plainKinds {
			out = append(out, impl.Rec{Kind: kind, Trip: trip})
		}
	}
	return out
}

// okTexts is the text of every ok record, put together without the program.
func okTexts() map[string]impl.Rec {
	words := []string{"", "hold", "close", "undo", "begin", "yes", "no", "end"}
	out := map[string]impl.Rec{}
	for _, r := range okRecs() {
		parts := []string{words[r.Kind], string(rune('0' + r.Trip))}
		for _, n := range r.Many {
			parts = append(parts, string(rune('0'+n)))
		}
		out[strings.Join(parts, " ")] = r
	}
	return out
}

// sampleRecs is n ok records of all kinds, no two neighbours of one kind.
func sampleRecs(n int) []impl.Rec {
	var out []impl.Rec
	for i := range n {
		r := impl.Rec{Kind: i%7 + 1, Trip: i*5%6 + 1}
		switch r.Kind {
		case impl.RecHold:
			r.Many = []int{i%3 + 1}
		case impl.RecBegin:
			r.Many = []int{i % 4, 1 + i%3, i / 2 % 4}
		}
		out = append(out, r)
	}
	return out
}

// badRecs is records each of which is not ok for one reason.
func badRecs() []impl.Rec {
	return []impl.Rec{
		{},
		{Kind: 0, Trip: 1},
		{Kind: -1, Trip: 1},
		{Kind: 8, Trip: 1},
		{Kind: math.MinInt, Trip: 1},
		{Kind: math.MaxInt, Trip: 1},
		{Kind: impl.RecClose, Trip: 0},
		{Kind: impl.RecUndo, Trip: -1},
		{Kind: impl.RecYes, Trip: 7},
		{Kind: impl.RecNo, Trip: math.MaxInt},
		{Kind: impl.RecEnd, Trip: math.MinInt},
		{Kind: impl.RecClose, Trip: 1, Many: []int{1}},
		{Kind: impl.RecEnd, Trip: 1, Many: []int{0}},
		{Kind: impl.RecHold, Trip: 0, Many: []int{1}},
		{Kind: impl.RecHold, Trip: 7, Many: []int{1}},
		{Kind: impl.RecHold, Trip: 1},
		{Kind: impl.RecHold, Trip: 1, Many: []int{0}},
		{Kind: impl.RecHold, Trip: 1, Many: []int{4}},
		{Kind: impl.RecHold, Trip: 1, Many: []int{1, 1}},
		{Kind: impl.RecBegin, Trip: 0, Many: []int{1, 1, 1}},
		{Kind: impl.RecBegin, Trip: 7, Many: []int{1, 1, 1}},
		{Kind: impl.RecBegin, Trip: 1},
		{Kind: impl.RecBegin, Trip: 1, Many: []int{0, 0, 0}},
		{Kind: impl.RecBegin, Trip: 1, Many: []int{1, 1}},
		{Kind: impl.RecBegin, Trip: 1, Many: []int{1, 1, 1, 1}},
		{Kind: impl.RecBegin, Trip: 1, Many: []int{4, 0, 0}},
		{Kind: impl.RecBegin, Trip: 1, Many: []int{0, 1, -1}},
		{Kind: impl.RecBegin, Trip: 1, Many: make([]int, 100000)},
		{Kind: impl.RecYes, Trip: 1, Many: make([]int, 100000)},
	}
}

// badLogs is logs each of which is not ok for one reason.
func badLogs() []impl.Log {
	out := []impl.Log{
		{Recs: sampleRecs(41), Forced: 0},
		{Recs: sampleRecs(41), Forced: 41},
		{Recs: sampleRecs(1000), Forced: 40},
	}
	for _, n := range []int{0, 1, 3, 40} {
		for _, forced := range []int{math.MinInt, -1, n + 1, math.MaxInt} {
			out = append(out, impl.Log{Recs: sampleRecs(n), Forced: forced})
		}
	}
	for _, bad := range badRecs() {
		for _, at := range []int{0, 4, 8} {
			recs := sampleRecs(9)
			recs[at] = bad
			out = append(out, impl.Log{Recs: recs, Forced: 5})
		}
	}
	return out
}

// eachLog calls f with every number of records, and every number of forced ones.
func eachLog(f func(l impl.Log)) {
	for n := 0; n <= 40; n++ {
		for forced := 0; forced <= n; forced++ {
			f(impl.Log{Recs: sampleRecs(n), Forced: forced})
		}
	}
}

// sameRec is true of nil and empty lists too, which are one value.
func sameRec(a, b impl.Rec) bool {
	return a.Kind == b.Kind && a.Trip == b.Trip && slices.Equal(a.Many, b.Many)
}

func sameLog(a, b impl.Log) bool {
	return a.Forced == b.Forced && slices.EqualFunc(a.Recs, b.Recs, sameRec)
}

func isNoLog(l impl.Log) bool {
	return l.Forced == 0 && len(l.Recs) == 0
}

func isNoRec(r impl.Rec) bool {
	return r.Kind == 0 && r.Trip == 0 && len(r.Many) == 0
}

// span is where the memory of a list begins and ends, spare room included; the list is kept, so that no other one gets its memory meanwhile.
type span struct {
	from, to uintptr
	kept     any
}

func spanOf(list any) span {
	v := reflect.ValueOf(list)
	return span{v.Pointer(), v.Pointer() + uintptr(v.Cap())*v.Type().Elem().Size(), list}
}

func recSpans(r impl.Rec) []span {
	return []span{spanOf(r.Many)}
}

// logSpans looks behind the end of the records too.
func logSpans(l impl.Log) []span {
	out := []span{spanOf(l.Recs)}
	for _, r := range l.Recs[:cap(l.Recs)] {
		out = append(out, recSpans(r)...)
	}
	return out
}

// mustBeApart fails if an answer's lists share memory with each other, or with an argument's.
func mustBeApart(t *testing.T, answer, arguments []span) {
	t.Helper()
	for i, a := range answer {
		if slices.ContainsFunc(answer[i+1:], a.shares) || slices.ContainsFunc(arguments, a.shares) {
			t.Fatal("an answer shares memory")
		}
	}
}

func (a span) shares(b span) bool {
	return a.from < b.to && b.from < a.to
}

// roomyRec is the record, with room behind its numbers in which others stand.
func roomyRec(r impl.Rec) impl.Rec {
	many := append(make([]int, 0, len(r.Many)+3), r.Many...)
	copy(many[len(many):cap(many)], []int{-71, -72, -73})
	r.Many = many
	return r
}

// roomyLog is the log, with room behind its records, and behind each one's numbers, in which others stand.
func roomyLog(l impl.Log) impl.Log {
	recs := make([]impl.Rec, 0, len(l.Recs)+3)
	for _, r := range l.Recs {
		recs = append(recs, roomyRec(r))
	}
	behind := recs[len(recs):cap(recs)]
	for i := range behind {
		behind[i] = roomyRec(impl.Rec{Kind: -80 - i, Trip: -90 - i, Many: []int{-60}})
	}
	return impl.Log{Recs: recs, Forced: l.Forced}
}

// allInts is all numbers of a log, those in its spare room too.
func allInts(l impl.Log) []int {
	out := []int{l.Forced, len(l.Recs), cap(l.Recs)}
	for _, r := range l.Recs[:cap(l.Recs)] {
		out = append(out, recInts(r)...)
	}
	return out
}

func recInts(r impl.Rec) []int {
	out := []int{r.Kind, r.Trip, len(r.Many), cap(r.Many)}
	return append(out, r.Many[:cap(r.Many)]...)
}
