package tests

import (
	"math"
	"slices"
	"testing"

	"loop.example/g01173/impl"
)

func wantNotes(t *testing.T, s impl.Score, expected int64) {
	t.Helper()
	n, code := impl.NotesOf(s)
	if n != expected || code != impl.OK {
		t.Errorf("NotesOf %+v: got %d, %d, want %d", s, n, code, expected)
	}
}

func wantMost(t *testing.T, s impl.Score, expected int64) {
	t.Helper()
	n, code := impl.MostAtOnce(s)
	if n != expected || code != impl.OK {
		t.Errorf("MostAtOnce %+v: got %d, %d, want %d", s, n, code, expected)
	}
}

func wantEnd(t *testing.T, s impl.Score, expected int64) {
	t.Helper()
	at, code := impl.EndOfScore(s)
	if at != expected || code != impl.OK {
		t.Errorf("EndOfScore %+v: got %d, %d, want %d", s, at, code, expected)
	}
}

func wantBetween(t *testing.T, s impl.Score, from, to int64, expected []impl.Event) {
	t.Helper()
	events, code := impl.EventsBetween(s, from, to)
	if code != impl.OK || writtenDown(events) != writtenDown(expected) {
		t.Errorf("EventsBetween %d and %d: got %+v, %d, want %+v", from, to, events, code, expected)
	}
}

func wantTransposed(t *testing.T, s impl.Score, by int64, expected impl.Score) {
	t.Helper()
	got, code := impl.TransposeScore(s, by)
	want(t, "TransposeScore", code, impl.OK)
	wantScore(t, "TransposeScore", got, expected)
	want(t, "ValidScore", impl.ValidScore(got), true)
}

func wantNotTransposed(t *testing.T, s impl.Score, by, expected int64) {
	t.Helper()
	got, code := impl.TransposeScore(s, by)
	if code != expected {
		t.Errorf("TransposeScore by %d: got %d, want %d", by, code, expected)
	}
	wantScore(t, "TransposeScore", got, impl.Score{})
}

func wantJoinedScore(t *testing.T, s, u impl.Score, at int64, expected impl.Score) {
	t.Helper()
	got, code := impl.JoinScores(s, u, at)
	want(t, "JoinScores", code, impl.OK)
	wantScore(t, "JoinScores", got, expected)
	want(t, "ValidScore", impl.ValidScore(got), true)
}

func wantNotJoined(t *testing.T, s, u impl.Score, at, expected int64) {
	t.Helper()
	got, code := impl.JoinScores(s, u, at)
	if code != expected {
		t.Errorf("JoinScores at %d: got %d, want %d", at, code, expected)
	}
	wantScore(t, "JoinScores", got, impl.Score{})
}

func TestP15LooksAtScores(t *testing.T) {
	s := songScore()
	wantNotes(t, s, 5)
	wantEnd(t, s, 99)
	wantMost(t, s, 2)
	empty := firstScore(nil)
	wantNotes(t, empty, 0)
	wantEnd(t, empty, 0)
	wantMost(t, empty, 0)
	wantBetween(t, empty, math.MinInt64, math.MaxInt64, nil)
	wantNotes(t, fullScore(), impl.MaxNotes)
	wantEnd(t, fullScore(), impl.MaxTime)
	wantMost(t, fullScore(), impl.MaxNotes)
	for _, s := range validScores() {
		notes := notesOf(s)
		end := int64(0)
		for _, n := range notes {
			end = max(end, n.to)
		}
		wantNotes(t, s, int64(len(notes)))
		wantEnd(t, s, end)
		wantMost(t, s, mostOf(s))
	}
}

// mostOf counts behind each event anew.
func mostOf(s impl.Score) int64 {
	most := 0
	for i := range s.Events {
		sounding := map[int64]bool{}
		for _, e := range s.Events[:i+1] {
			if e.Kind == impl.EvStart {
				sounding[e.Note] = true
			} else {
				delete(sounding, e.Note)
			}
		}
		most = max(most, len(sounding))
	}
	return int64(most)
}

func TestP15MostNotesAtOnce(t *testing.T) {
	for _, c := range []struct {
		notes    []note
		expected int64
	}{
		{[]note{{from: 5, to: 5}}, 1}, {[]note{{from: 0, to: 5}, {from: 5, to: 9}}, 1}, {[]note{{from: 0, to: 6}, {from: 5, to: 9}}, 2}, {[]note{{from: 5, to: 5}, {from: 5, to: 5}}, 1},
		{[]note{{from: 0, to: 5}, {from: 5, to: 5}}, 1}, {[]note{{from: 5, to: 9}, {from: 5, to: 5}}, 2}, {[]note{{from: 5, to: 5}, {from: 5, to: 9}}, 1}, {[]note{{from: 0, to: 9}, {from: 1, to: 2}, {from: 3, to: 4}, {from: 2, to: 3}}, 2},
		{[]note{{from: 0, to: 9}, {from: 0, to: 9}, {from: 0, to: 9}, {from: 20, to: 21}}, 3},
	} {
		wantMost(t, firstScore(oneString(), eventsOf(c.notes)...), c.expected)
	}
}

func TestP15EventsBetweenTimes(t *testing.T) {
	s := songScore()
	for _, c := range []struct {
		from, to    int64
		first, last int
	}{
		{0, 100, 0, 10}, {0, 99, 0, 9}, {0, 1, 0, 3}, {0, 0, 0, 0}, {-5, 0, 0, 0}, {-5, 1, 0, 3}, {1, 7, 3, 3}, {1, 8, 3, 4}, {7, 10, 3, 4}, {7, 11, 3, 9}, {10, 11, 4, 9}, {10, 10, 4, 4}, {11, 10, 4, 4}, {11, 99, 9, 9}, {11, 100, 9, 10},
		{99, 100, 9, 10}, {99, 99, 9, 9}, {100, 200, 10, 10}, {100, 0, 0, 0}, {50, 5, 0, 0}, {-10, -5, 0, 0}, {-5, -10, 0, 0}, {math.MinInt64, math.MaxInt64, 0, 10}, {math.MaxInt64, math.MinInt64, 0, 0}, {0, math.MaxInt64, 0, 10}, {math.MinInt64, 10, 0, 4}, {math.MaxInt64, math.MaxInt64, 0, 0}, {math.MinInt64, math.MinInt64, 0, 0},
		{impl.MaxTime, impl.MaxTime + 1, 0, 0}, {1 << 32, 1<<32 + 100, 0, 0},
	} {
		wantBetween(t, s, c.from, c.to, s.Events[c.first:c.last])
	}
	late := firstScore(oneString(), start(impl.MaxTime, 0, 0, 0, 1), stop(impl.MaxTime, 0))
	wantBetween(t, late, impl.MaxTime, impl.MaxTime+1, late.Events)
	wantBetween(t, late, 0, impl.MaxTime, nil)
	for _, s := range validScores() {
		var all []impl.Event
		for from := int64(-7); from <= impl.MaxTime; {
			to := min(from*2+20, impl.MaxTime+1)
			events, _ := impl.EventsBetween(s, from, to)
			all = append(all, events...)
			from = to
		}
		want(t, "all events", writtenDown(all), writtenDown(s.Events))
	}
}

func TestP15TransposedScores(t *testing.T) {
	for _, s := range validScores() {
		wantTransposed(t, s, 0, s)
		for by := int64(-impl.MaxKey); by <= impl.MaxKey; by++ {
			expected := copiedScore(s)
			isRight := true
			for i := range expected.Events {
				if e := &expected.Events[i]; e.Kind == impl.EvStart {
					e.Key += by
					isRight = isRight && e.Key >= -impl.MaxKey && e.Key <= impl.MaxKey
				}
			}
			if isRight {
				wantTransposed(t, s, by, expected)
			} else {
				wantNotTransposed(t, s, by, impl.ErrRange)
			}
		}
	}
}

func TestP15TransposingAtItsBounds(t *testing.T) {
	with := func(key int64) impl.Score { return firstScore(oneString(), start(0, 0, 0, key, 1), stop(5, 0)) }
	for _, c := range [][2]int64{{0, impl.MaxKey}, {0, -impl.MaxKey}, {impl.MaxKey, -impl.MaxKey}, {-impl.MaxKey, impl.MaxKey}, {impl.MaxKey, 0}, {99, 1}, {-99, -1}, {1, 99}, {12, -100}} {
		wantTransposed(t, with(c[0]), c[1], with(c[0]+c[1]))
	}
	for _, c := range [][2]int64{{1, impl.MaxKey}, {-1, -impl.MaxKey}, {impl.MaxKey, 1}, {-impl.MaxKey, -1}, {99, 2}, {-99, -2}, {-impl.MaxKey, impl.MaxKey + 1}, {impl.MaxKey, -impl.MaxKey - 1}, {-50, 120}} {
		wantNotTransposed(t, with(c[0]), c[1], impl.ErrRange)
	}
	for _, by := range noKeys {
		wantNotTransposed(t, with(-50), by, impl.ErrRange)
		wantNotTransposed(t, firstScore(nil), by, impl.ErrRange)
	}
	for _, by := range []int64{impl.MaxKey, -impl.MaxKey, 1} {
		wantTransposed(t, firstScore(nil), by, firstScore(nil))
	}
	both := firstScore(oneString(), eventsOf([]note{{to: 5, key: 0}, {to: 5, key: 100}, {to: 5, key: -100}})...)
	wantNotTransposed(t, both, 1, impl.ErrRange)
	wantNotTransposed(t, both, -1, impl.ErrRange)
	wantTransposed(t, both, 0, both)
}

func TestP15JoinedScores(t *testing.T) {
	one := firstScore(oneString(), start(0, 0, 0, 1, 1), start(5, 1, 0, 2, 0.5), stop(5, 1), stop(10, 0))
	other := firstScore(oneString(), start(0, 0, 0, 3, -1), stop(0, 0), start(0, 1, 0, 4, minusZero), stop(5, 1))
	wantJoinedScore(t, one, other, 0, firstScore(oneString(),
		start(0, 0, 0, 1, 1), start(0, 2, 0, 3, -1), stop(0, 2), start(0, 3, 0, 4, minusZero), stop(5, 3), start(5, 1, 0, 2, 0.5), stop(5, 1), stop(10, 0)))
	wantJoinedScore(t, one, other, 5, firstScore(oneString(),
		start(0, 0, 0, 1, 1), start(5, 1, 0, 2, 0.5), stop(5, 1), start(5, 2, 0, 3, -1), stop(5, 2), start(5, 3, 0, 4, minusZero), stop(10, 0), stop(10, 3)))
	wantJoinedScore(t, other, one, 0, firstScore(oneString(),
		start(0, 0, 0, 3, -1), stop(0, 0), start(0, 1, 0, 4, minusZero), start(0, 2, 0, 1, 1), stop(5, 1), start(5, 3, 0, 2, 0.5), stop(5, 3), stop(10, 2)))
	random := newRandom()
	for i := range 400 {
		s := impl.Score{Rate: 8000, Tuning: justTuning(), Instruments: mixedInstruments()}
		u := copiedScore(s)
		s.Events, u.Events = eventsOf(randomNotes(random, i%33, 6)), eventsOf(randomNotes(random, i*7%32, 6))
		at := []int64{0, 1, 3, random.Int64N(1000)}[i%4]
		notes := notesOf(s)
		for _, n := range notesOf(u) {
			n.from, n.to = n.from+at, n.to+at
			notes = append(notes, n)
		}
		expected := copiedScore(s)
		expected.Events = eventsOf(notes)
		wantJoinedScore(t, s, u, at, expected)
	}
}

func TestP15JoinedScoresHaveTheEventsOfBoth(t *testing.T) {
	for _, s := range validScores() {
		if len(s.Events) > impl.MaxNotes {
			continue
		}
		end, _ := impl.EndOfScore(s)
		before, _ := impl.NotesOf(s)
		u, code := impl.JoinScores(s, s, impl.MaxTime-end)
		want(t, "JoinScores", code, impl.OK)
		var first, second []impl.Event
		for _, e := range u.Events {
			if e.Note < before {
				first = append(first, e)
			} else {
				e.At, e.Note = e.At-(impl.MaxTime-end), e.Note-before
				second = append(second, e)
			}
		}
		want(t, "the events of the first", writtenDown(first), writtenDown(s.Events))
		want(t, "the events of the second", writtenDown(second), writtenDown(s.Events))
	}
}

func TestP15JoiningAtItsBounds(t *testing.T) {
	s, empty := firstScore(oneString(), start(3, 0, 0, 1, 1), stop(10, 0)), firstScore(oneString())
	for _, at := range noTimes {
		wantNotJoined(t, s, s, at, impl.ErrRange)
		wantNotJoined(t, s, empty, at, impl.ErrRange)
		wantNotJoined(t, empty, empty, at, impl.ErrRange)
	}
	for _, at := range []int64{0, 1, impl.MaxTime - 10} {
		wantJoinedScore(t, s, s, at, firstScore(oneString(), eventsOf([]note{{3, 10, 0, 1, 1}, {3 + at, 10 + at, 0, 1, 1}})...))
		wantJoinedScore(t, empty, s, at, firstScore(oneString(), start(3+at, 0, 0, 1, 1), stop(10+at, 0)))
	}
	for _, at := range []int64{impl.MaxTime - 9, impl.MaxTime - 3, impl.MaxTime - 2, impl.MaxTime} {
		wantNotJoined(t, s, s, at, impl.ErrRange)
		wantNotJoined(t, empty, s, at, impl.ErrRange)
	}
	for _, at := range []int64{0, 5, impl.MaxTime} {
		wantJoinedScore(t, s, empty, at, s)
		wantJoinedScore(t, fullScore(), scoreOfNoEvents(fullScore()), at, fullScore())
		wantJoinedScore(t, empty, empty, at, empty)
	}
	early := firstScore(oneString(), start(0, 0, 0, 1, 1), stop(0, 0))
	wantJoinedScore(t, s, early, impl.MaxTime, firstScore(oneString(), start(3, 0, 0, 1, 1), stop(10, 0), start(impl.MaxTime, 1, 0, 1, 1), stop(impl.MaxTime, 1)))
}

func scoreOfNoEvents(s impl.Score) impl.Score {
	s.Events = nil
	return s
}

func TestP15JoiningUnlikeScores(t *testing.T) {
	for i, change := range []func(s *impl.Score){
		func(s *impl.Score) { s.Rate = above(s.Rate) }, func(s *impl.Score) { s.Rate = 1 }, func(s *impl.Score) { s.Tuning.Base = 440 }, func(s *impl.Score) { s.Tuning.Octave = 1300 }, func(s *impl.Score) { s.Tuning.Degrees = s.Tuning.Degrees[:18] },
		func(s *impl.Score) { s.Tuning.Degrees[7] = above(s.Tuning.Degrees[7]) }, func(s *impl.Score) { s.Instruments[0].Name = "b" + s.Instruments[0].Name }, func(s *impl.Score) { s.Instruments[2] = impl.Instrument{Name: "abcdefghijkl", Kind: impl.IkString} },
		func(s *impl.Score) { s.Instruments[0].A = 0.25 }, func(s *impl.Score) { s.Instruments[0].B = 0 }, func(s *impl.Score) { s.Instruments[1].C = 0 }, func(s *impl.Score) { s.Instruments = mixedInstruments()[:4] },
		func(s *impl.Score) {
			s.Instruments[0].Name, s.Instruments[1].Name = s.Instruments[1].Name, s.Instruments[0].Name
		},
		func(s *impl.Score) { slices.Reverse(s.Instruments) },
		func(s *impl.Score) { s.Instruments = s.Instruments[:2]; s.Events = nil },
	} {
		s, u := songScore(), scoreWith(change)
		wantValidScore(t, "of the other one", u, true)
		wantNotJoined(t, s, u, 0, impl.ErrState)
		wantNotJoined(t, u, s, 0, impl.ErrState)
		wantNotJoined(t, scoreOfNoEvents(s), scoreOfNoEvents(u), int64(i), impl.ErrState)
	}
	zeros, others := firstScore([]impl.Instrument{{Name: "a", Kind: impl.IkPipe}}), firstScore([]impl.Instrument{{Name: "a", Kind: impl.IkPipe, C: minusZero}})
	wantNotJoined(t, zeros, others, 0, impl.ErrState)
}

func TestP15JoiningManyNotes(t *testing.T) {
	some := func(count int) impl.Score {
		var notes []note
		for i := range int64(count) {
			notes = append(notes, note{from: i % 5, to: 50 - i%3, key: i})
		}
		return firstScore(oneString(), eventsOf(notes)...)
	}
	for count := range impl.MaxNotes + 1 {
		s, code := impl.JoinScores(some(count), some(impl.MaxNotes-count), 7)
		want(t, "JoinScores", code, impl.OK)
		wantNotes(t, s, impl.MaxNotes)
		if count > 0 {
			wantNotJoined(t, some(count), some(impl.MaxNotes-count+1), 7, impl.ErrLimit)
		}
	}
	wantNotJoined(t, fullScore(), fullScore(), 0, impl.ErrLimit)
	// Errors at the same time:
	wantNotJoined(t, fullScore(), fullScore(), 1, impl.ErrRange)
	other := fullScore()
	other.Rate = 5
	wantNotJoined(t, fullScore(), other, 0, impl.ErrState)
	wantNotJoined(t, fullScore(), other, 1, impl.ErrRange)
	wantNotJoined(t, fullScore(), other, -1, impl.ErrRange)
	other.Rate = nan
	for _, at := range append(noTimes, 0, 1) {
		wantNotJoined(t, fullScore(), other, at, impl.ErrInvalid)
		wantNotJoined(t, other, fullScore(), at, impl.ErrInvalid)
		wantNotJoined(t, other, other, at, impl.ErrInvalid)
	}
}

func TestP15LooksAtScoresThatAreNotValid(t *testing.T) {
	for _, s := range invalidScores() {
		n, code := impl.NotesOf(s)
		want(t, "NotesOf", [2]int64{n, code}, [2]int64{0, impl.ErrInvalid})
		n, code = impl.EndOfScore(s)
		want(t, "EndOfScore", [2]int64{n, code}, [2]int64{0, impl.ErrInvalid})
		n, code = impl.MostAtOnce(s)
		want(t, "MostAtOnce", [2]int64{n, code}, [2]int64{0, impl.ErrInvalid})
		events, code := impl.EventsBetween(s, 0, 100)
		want(t, "EventsBetween", code, impl.ErrInvalid)
		want(t, "EventsBetween", len(events), 0)
		for _, by := range []int64{0, 1, impl.MaxKey + 1, math.MinInt64} {
			wantNotTransposed(t, s, by, impl.ErrInvalid)
		}
		for _, at := range []int64{0, -1, impl.MaxTime + 1} {
			wantNotJoined(t, s, songScore(), at, impl.ErrInvalid)
			wantNotJoined(t, songScore(), s, at, impl.ErrInvalid)
			wantNotJoined(t, s, s, at, impl.ErrInvalid)
		}
	}
}
