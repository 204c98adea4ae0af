package impl

import (
	"errors"
	"strconv"
	"strings"
)

// Limits: houses, trips, how many of one house a trip takes, and what one log holds.
const (
	HouseMax = 3
	TripMax  = 6
	ManyMax  = 3
	LogMax   = 40
)

// Kinds of records: of houses, and of the desk.
const (
	RecHold  = 1
	RecClose = 2
	RecUndo  = 3
	RecBegin = 4
	RecYes   = 5
	RecNo    = 6
	RecEnd   = 7
)

// textMax bounds what is read at all, in bytes.
const textMax = 20

// kindWords are the words of the kinds, each at its kind's place; 0 is no kind.
var kindWords = [8]string{"", "hold", "close", "undo", "begin", "yes", "no", "end"}

// errNoRec is told of all that is no ok record.
var errNoRec = errors.New("no record")

// Rec is a record: of which kind, of which trip, and, of a beginning, how many of each house; of a hold, how many.
type Rec struct {
	Kind int
	Trip int
	Many []int
}

// Log is records, the first ones of which are forced, so that no fall loses them.
type Log struct {
	Recs   []Rec
	Forced int
}

// entry is a record that is ok: its types can hold only the numbers that their kinds have.
type entry interface {
	kind() int
	trip() int
}

// holdEntry is a hold: of which trip, and how many.
type holdEntry struct {
	of    int
	count int
}

// beginEntry is a beginning: of which trip, and how many are wanted of each house.
type beginEntry struct {
	of     int
	wanted [HouseMax]int
}

// plainEntry is a record of any other kind, which has no numbers but its trip.
type plainEntry struct {
	what int
	of   int
}

func (e holdEntry) kind() int  { return RecHold }
func (e holdEntry) trip() int  { return e.of }
func (e beginEntry) kind() int { return RecBegin }
func (e beginEntry) trip() int { return e.of }
func (e plainEntry) kind() int { return e.what }
func (e plainEntry) trip() int { return e.of }

// RecOk says whether a record is ok.
func RecOk(r Rec) bool {
	_, err := entryOf(r)
	return !errors.Is(err, errNoRec)
}

// RecText is the text of a record.
func RecText(r Rec) string {
	e, err := entryOf(r)
	if errors.Is(err, errNoRec) {
		return ""
	}
	return entryText(e)
}

// RecRead is the record of a text.
func RecRead(text string) (Rec, bool) {
	e, err := readEntry(text)
	if errors.Is(err, errNoRec) {
		return Rec{}, false
	}
	return Rec{Kind: e.kind(), Trip: e.trip(), Many: entryMany(e)}, true
}

// LogOk says whether a log is ok.
func LogOk(l Log) bool {
	if len(l.Recs) > LogMax || l.Forced < 0 || l.Forced > len(l.Recs) {
		return false
	}
	for _, r := range l.Recs {
		if !RecOk(r) {
			return false
		}
	}
	return true
}

// LogAdd writes a record down.
func LogAdd(l Log, r Rec) (Log, bool) {
	if !LogOk(l) || !RecOk(r) {
		return Log{}, false
	}
	recs := copyRecs(l.Recs)
	if len(recs) == LogMax {
		return Log{Recs: recs, Forced: l.Forced}, false
	}
	return Log{Recs: append(recs, copyRec(r)), Forced: l.Forced}, true
}

// LogForce forces all that was written down.
func LogForce(l Log) Log {
	if !LogOk(l) {
		return Log{}
	}
	return forcedLog(l.Recs)
}

// LogFall is what is left behind a fall: what was forced, and so many more, if there are.
func LogFall(l Log, keep int) Log {
	if !LogOk(l) {
		return Log{}
	}
	// Bounded ahead of the sum, which the greatest keep would wrap round.
	more := min(max(keep, 0), len(l.Recs)-l.Forced)
	return forcedLog(l.Recs[:l.Forced+more])
}

// entryOf is the entry of a record, or errNoRec, if that is not ok.
func entryOf(r Rec) (entry, error) {
	if r.Trip < 1 || r.Trip > TripMax {
		return nil, errNoRec
	}
	switch r.Kind {
	case RecHold:
		return holdOf(r.Trip, r.Many)
	case RecBegin:
		return beginOf(r.Trip, r.Many)
	case RecClose, RecUndo, RecYes, RecNo, RecEnd:
		return plainOf(r.Kind, r.Trip, r.Many)
	}
	return nil, errNoRec
}

func holdOf(trip int, many []int) (entry, error) {
	if len(many) != 1 || many[0] < 1 || many[0] > ManyMax {
		return nil, errNoRec
	}
	return holdEntry{of: trip, count: many[0]}, nil
}

func beginOf(trip int, many []int) (entry, error) {
	if !wantedOk(many) {
		return nil, errNoRec
	}
	e := beginEntry{of: trip}
	for i, n := range many {
		e.wanted[i] = n
	}
	return e, nil
}

func plainOf(kind int, trip int, many []int) (entry, error) {
	if len(many) != 0 {
		return nil, errNoRec
	}
	return plainEntry{what: kind, of: trip}, nil
}

// wantedOk says whether a trip can want so many of each house.
func wantedOk(many []int) bool {
	if len(many) != HouseMax {
		return false
	}
	some := false
	for _, n := range many {
		if n < 0 || n > ManyMax {
			return false
		}
		some = some || n > 0
	}
	return some
}

// entryMany is a new list of the numbers that an entry has beside its trip.
func entryMany(e entry) []int {
	var many []int
	switch x := e.(type) {
	case holdEntry:
		many = append(many, x.count)
	case beginEntry:
		for _, n := range x.wanted {
			many = append(many, n)
		}
	}
	return many
}

func entryText(e entry) string {
	text := kindWords[e.kind()] + " " + strconv.Itoa(e.trip())
	for _, n := range entryMany(e) {
		text += " " + strconv.Itoa(n)
	}
	return text
}

// readEntry is the entry of a text, or errNoRec, if it is the text of none.
func readEntry(text string) (entry, error) {
	if len(text) > textMax {
		return nil, errNoRec
	}
	words := strings.Split(text, " ")
	numbers, err := readNumbers(words[1:])
	if err != nil {
		return nil, err
	}
	if len(numbers) == 0 {
		return nil, errNoRec
	}
	e, err := entryOf(Rec{Kind: kindOf(words[0]), Trip: numbers[0], Many: numbers[1:]})
	if err != nil {
		return nil, err
	}
	// Signs and needless zeros are read as numbers too, but a record has just one text.
	if entryText(e) != text {
		return nil, errNoRec
	}
	return e, nil
}

// kindOf is the kind whose word this is; 0, if there is none.
func kindOf(word string) int {
	for kind, w := range kindWords {
		if w == word {
			return kind
		}
	}
	return 0
}

func readNumbers(words []string) ([]int, error) {
	var numbers []int
	for _, w := range words {
		n, err := strconv.Atoi(w)
		if err != nil {
			return nil, errNoRec
		}
		numbers = append(numbers, n)
	}
	return numbers, nil
}

// forcedLog is a log of these records, all of them forced.
func forcedLog(recs []Rec) Log {
	return Log{Recs: copyRecs(recs), Forced: len(recs)}
}

func copyRecs(recs []Rec) []Rec {
	var out []Rec
	for _, r := range recs {
		out = append(out, copyRec(r))
	}
	return out
}

func copyRec(r Rec) Rec {
	return Rec{Kind: r.Kind, Trip: r.Trip, Many: append([]int(nil), r.Many...)}
}
