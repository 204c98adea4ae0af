package tests

import (
	"runtime"
	"slices"
	"sync"
	"testing"

	"loop.example/concierge/impl"
)

func TestRoomsOfLinesStay(t *testing.T) {
	t.Parallel()
	eachText(314, 100, func(rooms []int, text string) {
		given := roomyNumbers(rooms)
		got := impl.LinesRun(given, text)
		mustBeRoomy(t, given, rooms)
		if got != impl.LinesRun(slices.Clone(rooms), text) {
			t.Fatal("spare room counts", rooms, text)
		}
	})
	for _, rooms := range [][]int{{}, {1, 1}, {1, 1, 1, 1}, {10, 1, 1}} {
		given := roomyNumbers(rooms)
		mustTell(t, given, "see\n", "no world")
		mustBeRoomy(t, given, rooms)
	}
}

// A text is what its bytes are, wherever they stand, and stays.
func TestTextsOfLinesStay(t *testing.T) {
	all := "begin 1 0 0\nforce 0\nsay 0\nsee\nhello\ncalm\nbegin 0 1 0\n"
	for from := range len(all) {
		for to := from; to <= len(all); to++ {
			text := all[from:to]
			if got := impl.LinesRun(ones, text); got != linesByDocument(ones, string([]byte(text))) {
				t.Fatalf("%q: %q", text, got)
			}
		}
	}
	if all != "begin 1 0 0\nforce 0\nsay 0\nsee\nhello\ncalm\nbegin 0 1 0\n" {
		t.Error(all)
	}
}

// No call knows anything of another one, whatever panicked within that.
func TestLinesAreToldTheSameAtEachRun(t *testing.T) {
	defer runtime.GOMAXPROCS(runtime.GOMAXPROCS(0))
	for _, processors := range []int{1, 2, 8} {
		runtime.GOMAXPROCS(processors)
		eachText(315, 25, func(rooms []int, text string) {
			want := linesByDocument(rooms, text)
			for range 8 {
				if got := impl.LinesRun(rooms, text); got != want {
					t.Fatalf("%v %q: %q", rooms, text, got)
				}
				impl.LinesRun([]int{3, 3, 3}, "begin 1 1 1\nno line\ncalm\n")
			}
		})
	}
}

func TestManyTellLinesAtOnce(t *testing.T) {
	t.Parallel()
	rooms := roomyNumbers([]int{2, 1, 0})
	text := "begin 1 1 0\nforce 0\nwhat is it\nwords\ncalm\nbegin 2 0 0\ngive 2\nsee\n\ncalm\n"
	want := linesByDocument([]int{2, 1, 0}, text)
	var telling sync.WaitGroup
	var told [16]string
	for i := range told {
		telling.Add(1)
		go func() {
			defer telling.Done()
			for range 50 {
				told[i] = impl.LinesRun(rooms, text)
			}
		}()
	}
	telling.Wait()
	for i, got := range told {
		if got != want {
			t.Error(i, got)
		}
	}
	mustBeRoomy(t, rooms, []int{2, 1, 0})
}

// Nobody who worked for the lines is left behind them.
func TestLinesJoinAllThatTheyLetRun(t *testing.T) {
	before := runtime.NumGoroutine()
	for range 100 {
		impl.LinesRun(ones, "begin 1 1 1\ncalm\nnone\ncalm\n")
	}
	mustLeaveNobody(t, before)
}
