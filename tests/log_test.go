package tests

import (
	"math"
	"slices"
	"testing"

	"loop.example/concierge/impl"
)

// keeps is how many a fall may be told to keep, of so many that are not forced.
func keeps(loose int) []int {
	return append([]int{loose - 1, loose, loose + 1}, edgeInts...)
}

func TestLogOk(t *testing.T) {
	eachLog(func(l impl.Log) {
		if !impl.LogOk(l) {
			t.Error(len(l.Recs), l.Forced)
		}
	})
	for i, l := range badLogs() {
		if impl.LogOk(l) {
			t.Error(i)
		}
	}
}

func TestLogOkOfForced(t *testing.T) {
	for _, n := range []int{0, 1, 2, 39, 40} {
		for _, forced := range append([]int{n - 1, n, n + 1}, edgeInts...) {
			l := impl.Log{Recs: sampleRecs(n), Forced: forced}
			if impl.LogOk(l) != (forced >= 0 && forced <= n) {
				t.Error(n, forced)
			}
		}
	}
}

func TestP5LogAdd(t *testing.T) {
	adds := sampleRecs(7)
	eachLog(func(l impl.Log) {
		for _, r := range adds {
			got, ok := impl.LogAdd(l, r)
			want := l
			if len(l.Recs) < 40 {
				want = impl.Log{Recs: append(slices.Clone(l.Recs), r), Forced: l.Forced}
			}
			if ok != (len(l.Recs) < 40) || !sameLog(got, want) {
				t.Fatal(len(l.Recs), l.Forced, r, got, ok)
			}
		}
	})
}

func TestP5LogAddOfEveryRecord(t *testing.T) {
	for _, r := range okRecs() {
		for _, n := range []int{0, 5, 39} {
			got, ok := impl.LogAdd(impl.Log{Recs: sampleRecs(n)}, r)
			if !ok || len(got.Recs) != n+1 || !sameRec(got.Recs[n], r) || !impl.LogOk(got) {
				t.Error(r, n, got, ok)
			}
		}
	}
}

func TestP5LogAddUpToTheLimitAndOnceMore(t *testing.T) {
	l, ok := impl.Log{}, true
	for i, r := range sampleRecs(40) {
		if l, ok = impl.LogAdd(l, r); !ok || len(l.Recs) != i+1 {
			t.Fatal(i, l)
		}
	}
	full, ok := impl.LogAdd(l, sampleRecs(1)[0])
	if ok || !sameLog(full, l) || len(full.Recs) != 40 {
		t.Error(full, ok)
	}
}

func TestLogAddOfWhatIsNotOk(t *testing.T) {
	for i, l := range badLogs() {
		for _, r := range append(sampleRecs(7), badRecs()[0]) {
			if got, ok := impl.LogAdd(l, r); ok || !isNoLog(got) {
				t.Error(i, r, got, ok)
			}
		}
	}
	for i, r := range badRecs() {
		for _, n := range []int{0, 3, 40} {
			if got, ok := impl.LogAdd(impl.Log{Recs: sampleRecs(n), Forced: n / 2}, r); ok || !isNoLog(got) {
				t.Error(i, n, got, ok)
			}
		}
	}
}

func TestP6LogForce(t *testing.T) {
	eachLog(func(l impl.Log) {
		forced := impl.LogForce(l)
		if !sameLog(forced, impl.Log{Recs: l.Recs, Forced: len(l.Recs)}) {
			t.Fatal(l, forced)
		}
		if !sameLog(impl.LogForce(forced), forced) {
			t.Fatal(l)
		}
		for _, keep := range keeps(0) {
			if left := impl.LogFall(forced, keep); !sameLog(left, forced) {
				t.Fatal(l, keep, left)
			}
		}
	})
}

// leftOf is how many of n records a fall leaves, counted one by one.
func leftOf(n, forced, keep int) int {
	left := forced
	for left < n && keep > 0 {
		left++
		keep--
	}
	return left
}

func TestP7LogFall(t *testing.T) {
	eachLog(func(l impl.Log) {
		n := len(l.Recs)
		for _, keep := range keeps(n - l.Forced) {
			got := impl.LogFall(l, keep)
			left := leftOf(n, l.Forced, keep)
			if !sameLog(got, impl.Log{Recs: l.Recs[:left], Forced: left}) {
				t.Fatal(n, l.Forced, keep, got)
			}
			if !sameLog(impl.LogFall(got, keep), got) || !sameLog(impl.LogFall(got, 0), got) {
				t.Fatal(n, l.Forced, keep)
			}
		}
	})
}

func TestP8MoreKeptLeavesNoLess(t *testing.T) {
	eachLog(func(l impl.Log) {
		loose := len(l.Recs) - l.Forced
		all := slices.Sorted(slices.Values(keeps(loose)))
		last := 0
		for _, keep := range all {
			left := impl.LogFall(l, keep)
			if len(left.Recs) < last {
				t.Fatal(l, keep)
			}
			last = len(left.Recs)
			if keep >= loose && !sameLog(left, impl.LogForce(l)) {
				t.Fatal(l, keep, left)
			}
		}
	})
}

func TestP8FarMoreKeptThanThereAre(t *testing.T) {
	l := impl.Log{Recs: sampleRecs(9), Forced: 4}
	for keep, left := range map[int]int{math.MinInt: 4, -1: 4, 0: 4, 1: 5, 4: 8, 5: 9, 6: 9, math.MaxInt: 9} {
		if got := impl.LogFall(l, keep); len(got.Recs) != left || got.Forced != left {
			t.Error(keep, got)
		}
	}
}

func TestForceAndFallOfWhatIsNotOk(t *testing.T) {
	for i, l := range badLogs() {
		if got := impl.LogForce(l); !isNoLog(got) {
			t.Error(i, got)
		}
		for _, keep := range keeps(4) {
			if got := impl.LogFall(l, keep); !isNoLog(got) {
				t.Error(i, keep, got)
			}
		}
	}
}

func TestP10FirstRecordsAreOk(t *testing.T) {
	eachLog(func(l impl.Log) {
		for n := range len(l.Recs) + 1 {
			for _, forced := range []int{0, n / 2, n} {
				if !impl.LogOk(impl.Log{Recs: l.Recs[:n], Forced: forced}) {
					t.Fatal(n, forced)
				}
			}
			if impl.LogOk(impl.Log{Recs: l.Recs[:n], Forced: n + 1}) {
				t.Fatal(n)
			}
		}
	})
}

func TestP11AddAndFall(t *testing.T) {
	for _, r := range sampleRecs(7) {
		eachLog(func(l impl.Log) {
			for _, keep := range []int{math.MinInt, -1, 0} {
				left := impl.LogFall(l, keep)
				added, ok := impl.LogAdd(left, r)
				want := impl.Log{Recs: l.Recs[:l.Forced], Forced: l.Forced}
				if l.Forced < 40 {
					want.Recs = append(slices.Clone(want.Recs), r)
				}
				if ok != (l.Forced < 40) || !sameLog(added, want) {
					t.Fatal(l, r, added, ok)
				}
				behind, _ := impl.LogAdd(l, r)
				if !sameLog(impl.LogFall(behind, keep), left) {
					t.Fatal(l, r, keep)
				}
			}
		})
	}
}

// mustLeaveAlone fails if a call writes into its log, or answers memory of it, or of another list of the answer.
func mustLeaveAlone(t *testing.T, l impl.Log, call func(l impl.Log) impl.Log) {
	t.Helper()
	given := roomyLog(l)
	before := allInts(given)
	got := call(given)
	if !slices.Equal(allInts(given), before) {
		t.Fatal("an argument is another one")
	}
	mustBeApart(t, logSpans(got), logSpans(given))
}

func TestLogsAreNewMemory(t *testing.T) {
	for _, forced := range []int{0, 2, 9} {
		for _, n := range []int{0, 1, 9, 39, 40, 41} {
			l := impl.Log{Recs: sampleRecs(n), Forced: min(n, forced)}
			mustLeaveAlone(t, l, impl.LogForce)
			for _, keep := range []int{-1, 0, 1, 5, math.MaxInt} {
				mustLeaveAlone(t, l, func(l impl.Log) impl.Log { return impl.LogFall(l, keep) })
			}
			for _, r := range append(sampleRecs(7), badRecs()...) {
				r := roomyRec(r)
				before := recInts(r)
				mustLeaveAlone(t, l, func(l impl.Log) impl.Log {
					got, _ := impl.LogAdd(l, r)
					mustBeApart(t, logSpans(got), recSpans(r))
					return got
				})
				if !slices.Equal(recInts(r), before) {
					t.Fatal("a record is another one")
				}
			}
		}
	}
}

func TestBadLogsStay(t *testing.T) {
	for _, l := range badLogs() {
		mustLeaveAlone(t, l, func(l impl.Log) impl.Log { impl.LogOk(l); return impl.LogForce(l) })
		mustLeaveAlone(t, l, func(l impl.Log) impl.Log { return impl.LogFall(l, 1) })
	}
}

// One list in two records of an argument must be two lists in the answer.
func TestListsThatAnArgumentSharesAreApartInAnswers(t *testing.T) {
	many := []int{1, 2, 3}
	r := impl.Rec{Kind: impl.RecBegin, Trip: 1, Many: many}
	l := impl.Log{Recs: []impl.Rec{r, r, r}, Forced: 1}
	added, _ := impl.LogAdd(l, r)
	for _, got := range []impl.Log{added, impl.LogForce(l), impl.LogFall(l, 1)} {
		mustBeApart(t, logSpans(got), append(logSpans(l), spanOf(many)))
	}
}

func TestNilAndEmptyListsAreOneValue(t *testing.T) {
	r := sampleRecs(1)[0]
	plain := impl.Rec{Kind: impl.RecEnd, Trip: 1}
	emptied := impl.Rec{Kind: impl.RecEnd, Trip: 1, Many: []int{}}
	pairs := [][2]impl.Log{
		{{}, {Recs: []impl.Rec{}}},
		{{Forced: 1}, {Recs: []impl.Rec{}, Forced: 1}},
		{{Forced: -1}, {Recs: []impl.Rec{}, Forced: -1}},
		{{Recs: []impl.Rec{plain, r}}, {Recs: []impl.Rec{emptied, r}}},
	}
	for _, p := range pairs {
		if impl.LogOk(p[0]) != impl.LogOk(p[1]) || !sameLog(impl.LogForce(p[0]), impl.LogForce(p[1])) {
			t.Error(p)
		}
		for _, keep := range edgeInts {
			if !sameLog(impl.LogFall(p[0], keep), impl.LogFall(p[1], keep)) {
				t.Error(p, keep)
			}
		}
		for _, add := range []impl.Rec{r, plain, emptied, {}} {
			a, okA := impl.LogAdd(p[0], add)
			b, okB := impl.LogAdd(p[1], add)
			if okA != okB || !sameLog(a, b) {
				t.Error(p, add)
			}
		}
	}
}
