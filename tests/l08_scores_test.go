package tests

import (
	"math"
	"slices"
	"testing"

	"loop.example/g01173/impl"
)

func wantValidInstrument(t *testing.T, x impl.Instrument, expected bool) {
	t.Helper()
	if impl.ValidInstrument(x) != expected {
		t.Errorf("ValidInstrument %+v: want %v", x, expected)
	}
}

func wantValidScore(t *testing.T, name string, s impl.Score, expected bool) {
	t.Helper()
	if impl.ValidScore(s) != expected {
		t.Errorf("ValidScore %s %+v: want %v", name, s, expected)
	}
}

func TestP15ValidInstruments(t *testing.T) {
	parts := []float32{0, minusZero, leastSample, 0.25, 0.5, below(1)}
	shares := append(parts, 1)
	mixes := []float32{0, minusZero, leastSample, 0.25, below(0.5), 0.5}
	for i, b := range shares {
		for _, c := range parts {
			wantValidInstrument(t, impl.Instrument{Name: "a", Kind: impl.IkString, A: mixes[i%len(mixes)], B: b, C: c}, true)
		}
		for _, c := range []float32{0, minusZero, 1} {
			wantValidInstrument(t, impl.Instrument{Name: "pipe", Kind: impl.IkPipe, A: parts[i%len(parts)], B: b, C: c}, true)
		}
		for _, c := range finiteSamples {
			wantValidInstrument(t, impl.Instrument{Name: "bow", Kind: impl.IkBow, A: parts[i%len(parts)], B: b, C: c}, true)
		}
	}
	for _, a := range mixes {
		wantValidInstrument(t, impl.Instrument{Name: "z", Kind: impl.IkString, A: a}, true)
	}
	for _, name := range []string{"a", "z", "az", "string", "abcdefghijkl", "zzzzzzzzzzzz", "end"} {
		wantValidInstrument(t, impl.Instrument{Name: name, Kind: impl.IkBow}, true)
	}
	for _, x := range invalidInstruments() {
		wantValidInstrument(t, x, false)
	}
}

func TestP15NamesOfInstrumentsWithOtherBytes(t *testing.T) {
	for c := range 256 {
		for _, name := range []string{string([]byte{byte(c)}), "ab" + string([]byte{byte(c)}), string([]byte{byte(c)}) + "abcdefghijk", "abcdefghijk" + string([]byte{byte(c)})} {
			wantValidInstrument(t, impl.Instrument{Name: name, Kind: impl.IkString}, c >= 'a' && c <= 'z')
		}
	}
}

func TestP15ValidScores(t *testing.T) {
	for _, s := range validScores() {
		wantValidScore(t, "a valid one", s, true)
	}
	for _, s := range invalidScores() {
		wantValidScore(t, "one that is not", s, false)
	}
	for _, rate := range []float32{1, above(1), 1.5, 44100, below(1000000), 1000000} {
		wantValidScore(t, "with another rate", scoreWith(func(s *impl.Score) { s.Rate = rate }), true)
	}
	for _, x := range validTunings() {
		wantValidScore(t, "with another tuning", scoreWith(func(s *impl.Score) { s.Tuning = x }), true)
	}
	for _, a := range finiteSamples {
		wantValidScore(t, "with another force", scoreWith(func(s *impl.Score) { s.Events[0].Force = a }), true)
	}
	for _, key := range []int64{-impl.MaxKey, -1, 0, 1, impl.MaxKey} {
		wantValidScore(t, "with another key", scoreWith(func(s *impl.Score) { s.Events[0].Key = key }), true)
	}
	for i := range int64(3) {
		wantValidScore(t, "with another instrument", scoreWith(func(s *impl.Score) { s.Events[0].Instrument = i }), true)
	}
}

func TestP15TimesOfEvents(t *testing.T) {
	for _, c := range []struct {
		from, to int64
		expected bool
	}{
		{0, 0, true}, {0, 1, true}, {0, impl.MaxTime, true}, {impl.MaxTime, impl.MaxTime, true}, {50, 51, true}, {-1, 0, false}, {-1, -1, false}, {0, impl.MaxTime + 1, false},
		{impl.MaxTime + 1, impl.MaxTime + 1, false}, {impl.MaxTime, impl.MaxTime + 1, false}, {math.MinInt64, 0, false}, {0, math.MaxInt64, false},
	} {
		s := firstScore(oneString(), start(c.from, 0, 0, 0, 1), stop(c.to, 0))
		wantValidScore(t, "of one note", s, c.expected)
	}
	for _, c := range [][2]int64{{1, 0}, {51, 50}, {impl.MaxTime, 0}, {0, 0}} {
		from, to := c[0], c[1]
		wantValidScore(t, "whose note stops before it starts", firstScore(oneString(), stop(to, 0), start(from, 0, 0, 0, 1)), false)
		wantValidScore(t, "whose events are turned", firstScore(oneString(), start(from, 0, 0, 0, 1), stop(to, 0)), from == to)
	}
}

func TestP15NotesStartAndStopOnce(t *testing.T) {
	a, b, c := start(0, 0, 0, 0, 1), start(5, 1, 0, 0, 1), start(9, 2, 0, 0, 1)
	x, y, z := stop(3, 0), stop(7, 1), stop(20, 2)
	for _, right := range [][]impl.Event{nil, {}, {a, x}, {a, x, b, y}, {a, x, b, y, c, z}} {
		wantValidScore(t, "of some notes", firstScore(oneString(), right...), true)
	}
	for _, wrong := range [][]impl.Event{
		{a}, {x}, {a, a}, {x, x}, {x, a}, {b, y}, {a, b}, {a, x, b}, {a, x, y}, {a, x, x}, {a, a, x}, {a, a, x, x}, {a, x, a, x}, {a, x, start(4, 0, 0, 0, 1), stop(5, 0)}, {a, x, c, z}, {b, y, c, z},
		{a, x, b, y, z}, {a, x, b, y, c}, {a, b, x, z}, {a, x, y, b}, {a, b, stop(6, 0), stop(8, 0)}, {a, start(2, 0, 0, 0, 1), b, y}, {a, x, start(5, -1, 0, 0, 1), stop(6, -1)}, {a, x, start(5, 2, 0, 0, 1), stop(6, 2)},
		{start(0, 1, 0, 0, 1), stop(3, 1)}, {a, x, {}, {}}, {{}, {}}, {{}}, {a, {}}, {a, x, start(9, 64, 0, 0, 1), stop(9, 64)},
	} {
		wantValidScore(t, "of no notes", firstScore(oneString(), wrong...), false)
	}
}

func TestP15EventsAtOneTime(t *testing.T) {
	// One note stops, two stop when they start, and one goes on.
	s := firstScore(oneString(), start(0, 1, 0, 0, 1), stop(5, 1), start(5, 0, 0, 0, 1), stop(5, 0), start(5, 2, 0, 0, 1), stop(5, 2), start(5, 3, 0, 0, 1), stop(6, 3))
	wantValidScore(t, "in order", s, true)
	kept := s.Events
	right := 0
	permuted(1, 7, func(order []int) {
		s.Events = slices.Clone(kept)
		for i, from := range order {
			s.Events[1+i] = kept[from]
		}
		if impl.ValidScore(s) {
			right++
			want(t, "the order", slices.IsSorted(order), true)
		}
	})
	want(t, "orders", right, 1)
}

// permuted calls yield with each order of the numbers from one to less than the
// other.
func permuted(from, to int, yield func(order []int)) {
	var walk func(order []int)
	walk = func(order []int) {
		if len(order) == to-from {
			yield(order)
			return
		}
		for i := from; i < to; i++ {
			if !slices.Contains(order, i) {
				walk(append(order[:len(order):len(order)], i))
			}
		}
	}
	walk(nil)
}

func TestP15EventsInOrder(t *testing.T) {
	random := newRandom()
	for i := range 300 {
		events := eventsOf(randomNotes(random, 2+i%20, 1))
		wantValidScore(t, "in order", firstScore(oneString(), events...), true)
		for j := range len(events) - 1 {
			turned := slices.Clone(events)
			turned[j], turned[j+1] = turned[j+1], turned[j]
			wantValidScore(t, "with two events turned", firstScore(oneString(), turned...), false)
			wantValidScore(t, "with an event left out", firstScore(oneString(), slices.Delete(slices.Clone(events), j, j+1)...), false)
			wantValidScore(t, "with an event twice", firstScore(oneString(), slices.Insert(slices.Clone(events), j, events[j])...), false)
		}
	}
}

func TestP15ManyNotesAndInstruments(t *testing.T) {
	for _, count := range []int{impl.MaxNotes - 1, impl.MaxNotes, impl.MaxNotes + 1, 2 * impl.MaxNotes, 1000} {
		var notes []note
		for i := range count {
			notes = append(notes, note{from: int64(i), to: int64(i + 1)})
		}
		wantValidScore(t, "of many notes", firstScore(oneString(), eventsOf(notes)...), count <= impl.MaxNotes)
	}
	var list []impl.Instrument
	for i := range 3 * impl.MaxInstruments {
		list = append(list, impl.Instrument{Name: string(rune('a' + i)), Kind: impl.IkBow})
		wantValidScore(t, "of many instruments", firstScore(list), i < impl.MaxInstruments)
	}
	for i := range impl.MaxInstruments {
		for j := range i {
			s := firstScore(mixedInstruments())
			s.Instruments[i].Name = s.Instruments[j].Name
			wantValidScore(t, "with one name twice", s, false)
		}
	}
}

// changesOfScores make other scores, that are valid or not.
func changesOfScores() []func(s *impl.Score) {
	changes := []func(s *impl.Score){
		func(s *impl.Score) { s.Rate = above(s.Rate) }, func(s *impl.Score) { s.Rate = nan }, func(s *impl.Score) { s.Rate = minusZero }, func(s *impl.Score) { s.Rate = 0 },
		func(s *impl.Score) { s.Tuning.Base++ }, func(s *impl.Score) { s.Tuning.Octave = nan }, func(s *impl.Score) { s.Tuning.Degrees[0] = minusZero }, func(s *impl.Score) { s.Tuning.Degrees = s.Tuning.Degrees[:1] }, func(s *impl.Score) { s.Tuning.Degrees = nil },
		func(s *impl.Score) { s.Instruments = nil }, func(s *impl.Score) { s.Instruments = s.Instruments[:2] }, func(s *impl.Score) { s.Instruments = append(s.Instruments, impl.Instrument{}) },
		func(s *impl.Score) { slices.Reverse(s.Instruments) },
		func(s *impl.Score) { s.Events = nil }, func(s *impl.Score) { s.Events = s.Events[:9] }, func(s *impl.Score) { s.Events = s.Events[1:] }, func(s *impl.Score) { s.Events = append(s.Events, impl.Event{}) },
		func(s *impl.Score) { slices.Reverse(s.Events) },
	}
	for i := range 3 {
		changes = append(changes,
			func(s *impl.Score) { s.Instruments[i].Name += "x" }, func(s *impl.Score) { s.Instruments[i].Name = "" }, func(s *impl.Score) { s.Instruments[i].Kind = -7 },
			func(s *impl.Score) { s.Instruments[i].A = nan }, func(s *impl.Score) { s.Instruments[i].B = 0.25 }, func(s *impl.Score) { s.Instruments[i].C = leastSample })
	}
	for i := range 10 {
		changes = append(changes,
			func(s *impl.Score) { s.Events[i].At += 1000 }, func(s *impl.Score) { s.Events[i].Kind += 5 }, func(s *impl.Score) { s.Events[i].Note += 1 << 32 }, func(s *impl.Score) { s.Events[i].Instrument-- },
			func(s *impl.Score) { s.Events[i].Key = 77 }, func(s *impl.Score) { s.Events[i].Force = nan }, func(s *impl.Score) { s.Events[i].Force = leastSample }, func(s *impl.Score) { s.Events[i].Force = infinite })
	}
	return changes
}

func wantSame(t *testing.T, s, u impl.Score, expected bool) {
	t.Helper()
	if impl.SameScore(s, u) != expected || impl.SameScore(u, s) != expected {
		t.Errorf("SameScore %+v and %+v: want %v", s, u, expected)
	}
}

func TestP15SameScores(t *testing.T) {
	var list []impl.Score
	for _, change := range changesOfScores() {
		list = append(list, scoreWith(change))
	}
	list = append(list, songScore(), impl.Score{}, fullScore(), firstScore(nil))
	for i, s := range list {
		for j, u := range list {
			wantSame(t, s, copiedScore(u), i == j)
		}
	}
}

func TestP15SamenessOfZerosAndNaN(t *testing.T) {
	numbers := []func(s *impl.Score) *float32{
		func(s *impl.Score) *float32 { return &s.Rate }, func(s *impl.Score) *float32 { return &s.Tuning.Base }, func(s *impl.Score) *float32 { return &s.Tuning.Octave }, func(s *impl.Score) *float32 { return &s.Tuning.Degrees[1] },
		func(s *impl.Score) *float32 { return &s.Instruments[1].A }, func(s *impl.Score) *float32 { return &s.Instruments[1].B }, func(s *impl.Score) *float32 { return &s.Instruments[1].C },
		func(s *impl.Score) *float32 { return &s.Events[0].Force }, func(s *impl.Score) *float32 { return &s.Events[9].Force },
	}
	for _, number := range numbers {
		for i, a := range awkward() {
			for j, b := range awkward() {
				s, u := songScore(), songScore()
				*number(&s), *number(&u) = a, b
				wantSame(t, s, u, i == j || sameBits(a, b))
			}
		}
	}
}
