package tests

import (
	"math"
	"slices"
	"strings"
	"testing"

	"loop.example/g01173/impl"
)

func answersOfScores(s, u impl.Score, n, m int64) string {
	list := []any{impl.ValidScore(s), impl.SameScore(s, u)}
	for _, x := range s.Instruments[:min(len(s.Instruments), 10)] {
		list = append(list, impl.ValidInstrument(x))
	}
	notes, code := impl.NotesOf(s)
	list = append(list, notes, code)
	end, code := impl.EndOfScore(s)
	list = append(list, end, code)
	most, code := impl.MostAtOnce(s)
	list = append(list, most, code)
	events, code := impl.EventsBetween(s, n, m)
	list = append(list, events, code)
	transposed, code := impl.TransposeScore(s, n)
	list = append(list, transposed, code)
	both, code := impl.JoinScores(s, u, m)
	return writtenDown(append(list, both, code)...)
}

func answersOfTexts(text string) string {
	a, code := impl.ReadFraction(text)
	list := []any{a, code}
	s, line, code := impl.CompileScore(text)
	return writtenDown(append(list, s, line, code)...)
}

func TestP1ReturnsTheSameForAllScores(t *testing.T) {
	all := append(validScores(), invalidScores()...)
	numbers := []int64{math.MinInt64, -impl.MaxKey, -12, -1, 0, 1, 5, 50, impl.MaxKey, 1000, impl.MaxTime, impl.MaxTime + 1, math.MaxInt64}
	for i, s := range all {
		others := []impl.Score{s, all[(i*7+1)%len(all)], songScore()}
		before := writtenDown(s)
		for j, u := range others {
			told := writtenDown(u)
			n, m := numbers[(i+5*j)%len(numbers)], numbers[(i+3*j+4)%len(numbers)]
			first := answersOfScores(s, u, n, m)
			want(t, "the second time", answersOfScores(s, u, n, m), first)
			want(t, "the second argument", writtenDown(u), told)
		}
		want(t, "the first argument", writtenDown(s), before)
	}
}

func TestP1ReturnsTheSameForAllTextsOfScores(t *testing.T) {
	texts := append(append(append([]string{"", "\n", textOfExample, sixLines, fullLines, noteLines, "end", "repeat 2", "what"}, noFractions...), noWholes...), noNames...)
	random := newRandom()
	for range 500 {
		lines, _ := randomLines(random, 0)
		texts = append(texts, oneLine+strings.Join(lines, "\n"))
	}
	for _, text := range texts {
		first := answersOfTexts(text)
		want(t, "the second time", answersOfTexts(text), first)
	}
}

// spareScore has lists that lie in the middle of their memory, so that they have
// unused capacity.
func spareScore() (s impl.Score, degrees []float32, instruments []impl.Instrument, events []impl.Event) {
	degrees = []float32{91, 92, 0, 100, 250, 93, 94, 95, 96}
	instruments = append(mixedInstruments(), mixedInstruments()...)
	events = []impl.Event{stop(1, 2), {}, start(5, 0, 0, 3, 1), start(5, 1, 1, -2, -0.5), stop(5, 1), stop(7, 0), {}, stop(8, 8), start(3, 3, 3, 3, 3), {}, {}, {}, {}, {}}
	return impl.Score{Rate: 8000, Tuning: tuning(440, 1200, degrees[2:5]...), Instruments: instruments[1:4], Events: events[2:6]}, degrees, instruments, events
}

// overwriteScore also changes the unused capacity.
func overwriteScore(s impl.Score) {
	overwrite(s.Tuning.Degrees)
	overwriteInstruments(s.Instruments)
	overwriteEvents(s.Events)
}

func overwriteInstruments(list []impl.Instrument) {
	list = list[:cap(list)]
	for i := range list {
		list[i] = impl.Instrument{Name: "overwritten", Kind: -77}
	}
}

func overwriteEvents(list []impl.Event) {
	list = list[:cap(list)]
	for i := range list {
		list[i] = impl.Event{At: -77}
	}
}

func TestP1ScoresShareNoMemory(t *testing.T) {
	for i, change := range []func(s impl.Score) impl.Score{
		func(s impl.Score) impl.Score { u, _ := impl.TransposeScore(s, 1); return u },
		func(s impl.Score) impl.Score { u, _ := impl.TransposeScore(s, 0); return u },
		func(s impl.Score) impl.Score { u, _ := impl.JoinScores(s, s, 0); return u },
		func(s impl.Score) impl.Score { u, _ := impl.JoinScores(s, s, 50); return u },
		func(s impl.Score) impl.Score { u, _ := impl.JoinScores(s, scoreOfNoEvents(s), 1); return u },
		func(s impl.Score) impl.Score { u, _ := impl.JoinScores(scoreOfNoEvents(s), s, 1); return u },
		func(s impl.Score) impl.Score {
			other := copiedScore(s)
			u, _ := impl.JoinScores(other, s, 1)
			want(t, "the other one", impl.SameScore(other, s), true)
			return u
		},
		func(s impl.Score) impl.Score {
			events, _ := impl.EventsBetween(s, 0, 100)
			return impl.Score{Rate: 1, Tuning: tuning(1, 1, 0), Instruments: mixedInstruments(), Events: events}
		},
		func(s impl.Score) impl.Score {
			answersOfScores(s, s, 1, 5)
			u, _, _ := impl.CompileScore(textOfExample)
			return u
		},
	} {
		s, degrees, instruments, events := spareScore()
		want(t, "valid", impl.ValidScore(s), true)
		before := writtenDown(degrees, instruments, events)
		first, second := change(s), change(s)
		want(t, "valid", impl.ValidScore(first), true)
		want(t, "the memory", writtenDown(degrees, instruments, events), before)
		kept := writtenDown(second)
		want(t, "the first one", writtenDown(first), kept)
		overwriteScore(first)
		want(t, "the memory behind", writtenDown(degrees, instruments, events), before)
		want(t, "the second one", writtenDown(second), kept)
		overwrite(degrees)
		overwriteInstruments(instruments)
		overwriteEvents(events)
		if got := writtenDown(second); got != kept {
			t.Errorf("change %d: the second one shares memory: %s", i, got)
		}
	}
}

func TestP1CompiledScoresShareNoMemory(t *testing.T) {
	first, second := compiled(t, sixLines+"play a 0 1 5\n"), compiled(t, sixLines+"play a 0 1 5\n")
	kept := writtenDown(second)
	overwriteScore(first)
	want(t, "the second one", writtenDown(second), kept)
	want(t, "the third one", writtenDown(compiled(t, sixLines+"play a 0 1 5\n")), kept)
	overwriteScore(second)
	wantCompiled(t, "", firstScore(nil))
}

func TestP1NilAndEmptyListsAreEquivalentForScores(t *testing.T) {
	none := firstScore(nil)
	none.Events = nil
	empty := firstScore([]impl.Instrument{})
	empty.Events = []impl.Event{}
	want(t, "SameScore", impl.SameScore(none, empty), true)
	want(t, "SameScore", impl.SameScore(empty, none), true)
	for _, rate := range []float32{44100, nan} {
		none.Rate, empty.Rate = rate, rate
		want(t, "answers", answersOfScores(none, empty, 1, 5), answersOfScores(empty, none, 1, 5))
	}
	bare := impl.Score{Rate: 1, Tuning: impl.Tuning{Base: 440, Octave: 1200, Degrees: []float32{}}, Instruments: []impl.Instrument{}, Events: []impl.Event{}}
	want(t, "answers", answersOfScores(impl.Score{Rate: 1, Tuning: tuning(440, 1200)}, bare, 1, 5), answersOfScores(bare, bare, 1, 5))
}

func TestP1ReturnsForLongArgumentsOfChapter8(t *testing.T) {
	events := slices.Repeat([]impl.Event{start(0, 0, 0, 0, 1), stop(0, 0)}, 80000)
	instruments := slices.Repeat(mixedInstruments(), 30000)
	for _, s := range []impl.Score{
		firstScore(oneString(), events...), firstScore(instruments), {Rate: 1, Tuning: tuning(440, 1200, make([]float32, 900000)...)}, firstScore([]impl.Instrument{{Name: strings.Repeat("a", 900000), Kind: impl.IkBow}}), firstScore(nil, make([]impl.Event, 150000)...), firstScore(make([]impl.Instrument, 150000)),
	} {
		want(t, "ValidScore", impl.ValidScore(s), false)
		want(t, "SameScore", impl.SameScore(s, copiedScore(s)), true)
		want(t, "SameScore", impl.SameScore(s, songScore()), false)
		_, code := impl.NotesOf(s)
		want(t, "NotesOf", code, impl.ErrInvalid)
		wantNotTransposed(t, s, 1, impl.ErrInvalid)
		wantNotJoined(t, s, songScore(), 1, impl.ErrInvalid)
		wantNotJoined(t, songScore(), s, 1, impl.ErrInvalid)
	}
	for _, text := range []string{strings.Repeat("\n", 1000000), strings.Repeat(" ", 1000000), strings.Repeat("repeat 16\n", 100000), strings.Repeat("a", 1000000), strings.Repeat("at 0\n", 200000)} {
		wantFault(t, text, 0, impl.ErrRange)
	}
	for _, text := range []string{strings.Repeat(" ", impl.MaxScoreText), strings.Repeat("-", impl.MaxScoreText), "string " + strings.Repeat("a", 3000), "rate " + strings.Repeat("1", 3000)} {
		wantFault(t, text, 0, impl.ErrSyntax)
	}
	wantFault(t, "string "+strings.Repeat("a", 3000)+" 0 0 0", 0, impl.ErrRange)
	wantFault(t, "play "+strings.Repeat("a", 3000)+" 0 0 0", 0, impl.ErrNotFound)
}

func TestP1ScoresOfManyRepeatsAreCompiledInTime(t *testing.T) {
	// Each has lines that are compiled nearly 800000 times.
	for _, line := range []string{"at 0", "tuning 440 31", "rate 44100", "wait 0"} {
		compiled(t, strings.Repeat("repeat 16\n", 3)+strings.Repeat(line+"\n", 194)+strings.Repeat("end\n", 3))
	}
	compiled(t, strings.Repeat("repeat 16\n", 2)+strings.Repeat("repeat 16\nend\n", 97)+strings.Repeat("end\n", 2))
}
