package tests

import (
	"fmt"
	"math"
	"strings"
	"testing"

	"loop.example/g01173/impl"
)

// wantPlayed goes by the steps of the document.
func wantPlayed(t *testing.T, name string, p impl.Player, count int64) impl.Player {
	t.Helper()
	expected, samples := toldPlay(p, count)
	q, made := playedOn(t, p, count)
	wantSamples(t, name, made, samples)
	wantPlayer(t, name, q, expected)
	return q
}

// notesIn has the notes of all voices, with "-" for a free one, and "!" behind
// one that is gone.
func notesIn(p impl.Player) string {
	var words []string
	for _, v := range p.Voices {
		words = append(words, pick(v.Note == -1, "-", fmt.Sprint(v.Note))+pick(v.Gone, "!", ""))
	}
	return strings.Join(words, " ")
}

// wantVoices has the notes of the voices behind each step from the beginning.
func wantVoices(t *testing.T, s impl.Score, voices int64, skipped int64, expected ...string) {
	t.Helper()
	p := newPlayer(s, voices)
	for i, e := range expected {
		p, _ = playedOn(t, p, 1)
		if got := notesIn(p); got != e {
			t.Errorf("%d voices, behind step %d: got %q, want %q", voices, i, got, e)
		}
	}
	want(t, "Skipped", p.Skipped, skipped)
	wantPlayed(t, "from the beginning", newPlayer(s, voices), int64(len(expected)))
}

// longStrings sound until they are taken from: none comes to silence soon.
const longStrings = "rate 4000\nstring a 0 1 1/2\n"

func TestP16StartsTakeFreeVoices(t *testing.T) {
	s := compiled(t, longStrings+"play a 0 1 90\nplay a 0 1 90\nat 2\nplay a 0 1 90\n")
	wantVoices(t, s, 3, 0, "0 1 -", "0 1 -", "0 1 2")
	wantVoices(t, s, 5, 0, "0 1 - - -", "0 1 - - -", "0 1 2 - -")
	// The voice that is free lies behind others that sound, or ahead of them.
	q := compiled(t, "rate 4000\nstring a 0 1 1/2\nstring b 0 0 0\nplay a 0 1 90\nplay b 0 0 1\nplay a 0 1 90\nat 3\nplay a 0 1 90\nplay a 0 1 90\n")
	wantVoices(t, q, 4, 0, "0 1 2 -", "0 - 2 -", "0 - 2 -", "0 3 2 4")
	wantVoices(t, q, 3, 0, "0 1 2", "0 - 2", "0 - 2", "4 3 2")
}

func TestP16StartsTakeTheOldestVoice(t *testing.T) {
	s := compiled(t, longStrings+"play a 0 1 90\nwait 1\nplay a 0 1 90\nwait 1\nplay a 0 1 90\nwait 1\nplay a 0 1 90\nwait 1\nplay a 0 1 90\nplay a 0 1 90\nplay a 0 1 90\nwait 1\nplay a 0 1 90\n")
	wantVoices(t, s, 1, 0, "0", "1", "2", "3", "6", "7")
	wantVoices(t, s, 2, 0, "0 -", "0 1", "2 1", "2 3", "6 5", "7 5")
	// At 4, the notes 1, 2 and 3 are replaced, in this order, and at 5 one of those that
	// replaced them.
	wantVoices(t, s, 3, 0, "0 - -", "0 1 -", "0 1 2", "3 1 2", "6 4 5", "7 4 5")
	wantVoices(t, s, 4, 0, "0 - - -", "0 1 - -", "0 1 2 -", "0 1 2 3", "4 5 6 3", "4 5 6 7")
	// Those that are equally old are taken from the first one on, also where the
	// first voice is not among them.
	equal := compiled(t, longStrings+"play a 0 1 90\nplay a 0 1 90\nplay a 0 1 90\nat 2\nplay a 0 1 90\nat 4\nplay a 0 1 90\nat 5\nplay a 0 1 90\nat 6\nplay a 0 1 90\n")
	wantVoices(t, equal, 3, 0, "0 1 2", "0 1 2", "3 1 2", "3 1 2", "3 4 2", "3 4 5", "6 4 5")
	// A voice that is gone is no better than another one.
	gone := compiled(t, longStrings+"play a 0 1 90\nwait 1\nplay a 0 1 1\nwait 1\nplay a 0 1 0\nwait 1\nplay a 0 1 5\n")
	wantVoices(t, gone, 3, 0, "0 - -", "0 1 -", "0 1! 2!", "3 1! 2!")
	wantVoices(t, gone, 2, 0, "0 -", "0 1", "2! 1!", "2! 3")
}

func TestP16StopsFindTheirNote(t *testing.T) {
	s := compiled(t, longStrings+"play a 0 1 3\nplay a 0 1 2\nwait 1\nplay a 0 1 1\nwait 1\nwait 3\nplay a 0 1 5\n")
	wantVoices(t, s, 3, 0, "0 1 -", "0 1 2", "0 1! 2!", "0! 1! 2!", "0! 1! 2!", "3 1! 2!")
	// Where a note has been replaced, its stop does nothing.
	wantVoices(t, s, 1, 0, "1", "2", "2!", "2!", "2!", "3")
	wantVoices(t, s, 2, 0, "0 1", "2 1", "2! 1!", "2! 1!", "2! 1!", "2! 3")
	// A note that has no voice for its key is skipped, and so is its stop.
	skipped := compiled(t, longStrings+"play a 100 1 1\nplay a 0 1 9\nplay a -100 1 0\nwait 1\nplay a 99 1 9\nplay a 1 1 1\nwait 1\nplay a 90 1 0\n")
	wantVoices(t, skipped, 1, 4, "1", "4", "4!", "4!")
	wantVoices(t, skipped, 2, 4, "1 -", "1 4", "1 4!", "1 4!")
}

func TestP16WhatAStopChanges(t *testing.T) {
	p := trioWith(t, func(p *impl.Player) { p.Now, p.Next, p.Voices[0].Gone, p.Voices[0].String.Loss = 4, 3, false, 0.875 })
	p.Voices[0].Drive = 0.25 // of no use for a string, but there
	wantValidPlayer(t, "before the stop", p, true)
	before := p.Voices[0]
	q := wantPlayed(t, "a string", p, 1)
	expected := before
	expected.Gone, expected.Drive = true, 0
	expected.String.Loss = proOf(before.String.Loss, 0.5)
	expected.String, _, _ = impl.StepString(expected.String, 0)
	wantVoice(t, "a string", q.Voices[0], expected)
	want(t, "the others", q.Voices[1].Gone || q.Voices[2].Gone, false)
	wantSample(t, "the loss", q.Voices[0].String.Loss, 0.4375)

	// The note 0 stops at 90, and the note 1 at 92.
	p = trioWith(t, func(p *impl.Player) { p.Now, p.Next, p.Voices = 90, 6, p.Voices[1:3] })
	first, second := p.Voices[0], p.Voices[1]
	q = wantPlayed(t, "a pipe", p, 1)
	first.Gone, first.Drive = true, 0
	first.Pipe, _, _ = impl.StepPipe(first.Pipe, 0)
	second.Bow, _, _ = impl.StepBow(second.Bow, second.Drive)
	wantVoice(t, "a pipe", q.Voices[0], first)
	wantVoice(t, "a bow that is held", q.Voices[1], second)
	q = wantPlayed(t, "both", q, 1)
	second = q.Voices[1]
	q = wantPlayed(t, "a bow", q, 1)
	second.Gone, second.Drive = true, 0
	second.Bow, _, _ = impl.StepBow(second.Bow, 0)
	wantVoice(t, "a bow", q.Voices[1], second)

	// A string that is gone already loses half of its loss once more.
	p = trioWith(t, func(p *impl.Player) { p.Now, p.Next = 4, 3 })
	want(t, "gone", p.Voices[0].Gone, true)
	q = wantPlayed(t, "a stop of what is gone", p, 1)
	wantSample(t, "the loss", q.Voices[0].String.Loss, proOf(p.Voices[0].String.Loss, 0.5))
	for _, loss := range finiteSamples {
		p.Voices[0].String.Loss = loss
		q = wantPlayed(t, "a stop", p, 1)
		wantSample(t, "the loss", q.Voices[0].String.Loss, proOf(loss, 0.5))
	}
}

func TestP16NotesThatStopWhenTheyStart(t *testing.T) {
	s := compiled(t, "rate 4000\nstring a 0 1 1/2\npipe b 0 1/2 open\nbow c 0 1/2 1\nplay a 0 1 0\nplay b 0 1 0\nplay c 0 1 0\n")
	// What is not driven is silent behind its first step, but the string is not.
	wantVoices(t, s, 3, 0, "0! - -", "0! - -")
	p, _ := playedOn(t, newPlayer(s, 3), 1)
	wantSample(t, "the loss", p.Voices[0].String.Loss, 0.5)
	wantVoices(t, s, 1, 0, "-", "-")
	wantVoices(t, s, 2, 0, "- -", "- -")
}

func TestP16SilentVoicesBecomeFree(t *testing.T) {
	s := compiled(t, "rate 4000\nstring a 0 1 0\nplay a 0 0 3\nwait 1\nplay a 0 0 9\n")
	// Both are silent from the beginning, but they are held.
	wantVoices(t, s, 2, 0, "0 -", "0 1", "0 1", "- 1", "- 1")
	// What is not gone stays, silent as it may be, and what is gone stays until it
	// is silent.
	for i := range 3 {
		silent := trioWith(t, func(p *impl.Player) { p.Now, p.Next, p.Voices = 93, 8, p.Voices[i:i+1] })
		v := &silent.Voices[0]
		v.String, _ = impl.MuteString(v.String)
		v.Pipe, _ = impl.MutePipe(v.Pipe)
		v.Bow, _ = impl.MuteBow(v.Bow)
		v.Drive = 0
		for _, gone := range []bool{false, true} {
			v.Gone = gone
			p := wantPlayed(t, "a silent one", silent, 2)
			want(t, "free", p.Voices[0].Note == -1, gone)
		}
		// What is gone and driven is silent again only later, or never.
		v.Drive = 0.5
		p := wantPlayed(t, "a driven one", silent, 1)
		want(t, "free", p.Voices[0].Note == -1, i == 0)
	}
}

func TestP16VoicesBecomeFreeInTheirStep(t *testing.T) {
	for i := range 3 {
		p := trioWith(t, func(p *impl.Player) {
			p.Now, p.Next, p.Voices = 93, 8, p.Voices[i:i+1]
			p.Voices[0].Gone, p.Voices[0].Drive = true, 0
			if i == 2 { // A bow keeps what is at its neck as long as the string sticks, so there is nothing.
				p.Voices[0].Bow, _ = impl.PullBow(newBow(10, 0.4, 0.25, 0.25, 0), 0.5)
			}
		})
		v := p.Voices[0]
		steps := int64(0)
		for !isQuietVoice(v) && steps < 4000 {
			toldSound(&v)
			steps++
		}
		if steps < 20 || steps > 3000 {
			t.Errorf("voice %d is silent behind %d steps", i, steps)
		}
		q, _ := playedOn(t, p, steps-1)
		want(t, "before the last step", q.Voices[0].Note, p.Voices[0].Note)
		q, _ = playedOn(t, p, steps)
		wantVoice(t, "behind the last step", q.Voices[0], impl.FreeVoice())
		wantEnded(t, "behind the last step", q, true)
		_, made := playedOn(t, p, steps+5)
		_, expected := toldPlay(p, steps+5)
		wantSamples(t, "beyond the last step", made, expected)
	}
}

func TestP16SumsOfVoices(t *testing.T) {
	// Strings of one sample, which comes first, and of another one behind it.
	sum := func(samples ...float32) float32 {
		t.Helper()
		s := firstScore(oneString())
		var notes []note
		for range samples {
			notes = append(notes, note{to: 50})
		}
		s.Events = eventsOf(notes)
		p := impl.Player{Score: s, Now: 1, Next: int64(len(samples))}
		for i, a := range samples {
			p.Voices = append(p.Voices, impl.Voice{Note: int64(i), String: withRing(newString(9, 0, 0.5), 0, a, 0.125)})
		}
		wantValidPlayer(t, "strings of these samples", p, true)
		_, made := playedOn(t, p, 1)
		wantPlayed(t, "strings of these samples", p, 3)
		return made[0]
	}
	for _, c := range []struct {
		expected float32
		samples  []float32
	}{
		{0, []float32{0}}, {0, []float32{minusZero}}, {0, []float32{minusZero, minusZero}}, {0.75, []float32{0.5, 0.25}}, {1, []float32{1}}, {1, []float32{above(1)}}, {-1, []float32{below(-1)}}, {-1, []float32{-0.5, -0.5}},
		{1, []float32{0.5, 0.5, 0.5}}, {-1, []float32{-3}}, {1, []float32{greatest, greatest}}, {1, []float32{infinite}}, {-1, []float32{-infinite, 5}}, {nan, []float32{nan}}, {nan, []float32{0.5, otherNaN, 0.25}}, {nan, []float32{infinite, -infinite}},
		{nan, []float32{greatest, greatest, -infinite}}, {leastSample, []float32{leastSample}}, {mostSub, []float32{leastNormal, -leastSample}},
		// The order of the sum tells.
		{0, []float32{0.5, 1 << 30, -1 << 30}}, {0.5, []float32{1 << 30, -1 << 30, 0.5}}, {0, []float32{1 << 30, 0.5, -1 << 30}}, {1, []float32{greatest, greatest, -greatest, -greatest}}, {0, []float32{greatest, -greatest, greatest, -greatest}},
		// Only the sum is clamped, and not what comes into it.
		{0.5, []float32{2, -1.5}}, {-0.25, []float32{3, 3, 3, -9.25}},
	} {
		wantSample(t, fmt.Sprint(c.samples), sum(c.samples...), c.expected)
	}
}

func TestP16SilenceIsZero(t *testing.T) {
	for _, s := range []impl.Score{firstScore(nil), compiled(t, longStrings+"at 50\nplay a 0 1 9\n")} {
		p, made := playedOn(t, newPlayer(s, 3), 20)
		wantSamples(t, "before a note", made, make([]float32, 20))
		wantSounding(t, "before a note", p)
	}
}

func TestP16EventsAtOneTime(t *testing.T) {
	// A stop that frees no voice for the start behind it, as the voice becomes free
	// only behind the step.
	s := compiled(t, "rate 4000\nstring a 0 0 0\nplay a 0 0 2\nat 2\nplay a 0 0 3\n")
	wantVoices(t, s, 2, 0, "0 -", "0 -", "- 1", "- 1")
	wantVoices(t, s, 1, 0, "0", "0", "1", "1")
	// The numbers of notes tell the order, and not that of the lines in time.
	order := firstScore(oneString(), eventsOf([]note{{from: 2, to: 2}, {from: 0, to: 2}, {from: 2, to: 9}, {from: 0, to: 0}, {from: 2, to: 3}})...)
	order.Rate = 4000
	for i := range order.Events {
		if order.Events[i].Kind == impl.EvStart {
			order.Events[i].Force = 1
		}
	}
	order.Instruments[0].B = 1
	wantVoices(t, order, 2, 0, "1 3!", "1 3!", "4 2", "4! 2")
	wantVoices(t, order, 3, 0, "1 3! -", "1 3! -", "2 4 0!", "2 4! 0!")
	wantVoices(t, order, 5, 0, "1 3! - - -", "1 3! - - -", "1! 3! 0! 2 4", "1! 3! 0! 2 4!")
}

func TestP16StepsAreThoseOfTheDocument(t *testing.T) {
	random := newRandom()
	for range 400 {
		p := anyPlayer(t, random)
		wantPlayed(t, "any player", p, []int64{0, 1, 2, 16, 40, 100}[random.IntN(6)])
	}
	for n := int64(1); n <= impl.MaxVoices; n++ {
		p := newPlayer(bandScore(t), n)
		for _, count := range []int64{6, 1, 40, 100, 300} {
			p = wantPlayed(t, "the band", p, count)
		}
	}
}

func TestP16CountsOfSteps(t *testing.T) {
	p := trio(t)
	for _, count := range []int64{-1, impl.MaxPlayed + 1, 1 << 32, 1<<32 + 1, -1 << 32, math.MaxInt64, math.MinInt64} {
		wantNoSamples(t, p, count, impl.ErrRange)
	}
	q, made := playedOn(t, p, 0)
	wantPlayer(t, "no step", q, p)
	want(t, "no step", len(made), 0)
	q = wantPlayed(t, "MaxPlayed steps", p, 4096)
	want(t, "Now", q.Now, p.Now+4096)
	wantNoSamples(t, p, 4097, impl.ErrRange)
	for _, p := range invalidPlayers(t) {
		for _, count := range []int64{-1, 0, 1, impl.MaxPlayed, impl.MaxPlayed + 1} {
			wantNoSamples(t, p, count, impl.ErrInvalid)
		}
		wantNoStep(t, p, impl.ErrInvalid)
		wantNoBlock(t, p, impl.ErrInvalid)
	}
}

func wantNoSamples(t *testing.T, p impl.Player, count, expected int64) {
	t.Helper()
	q, made, code := impl.PlaySamples(p, count)
	if code != expected {
		t.Errorf("PlaySamples %d: got %d, want %d", count, code, expected)
	}
	wantPlayer(t, "PlaySamples, with an error", q, impl.Player{})
	want(t, "PlaySamples, with an error", len(made), 0)
}

func wantNoStep(t *testing.T, p impl.Player, expected int64) {
	t.Helper()
	q, a, code := impl.StepPlayer(p)
	want(t, "StepPlayer", code, expected)
	wantPlayer(t, "StepPlayer, with an error", q, impl.Player{})
	wantSample(t, "StepPlayer, with an error", a, 0)
}

func wantNoBlock(t *testing.T, p impl.Player, expected int64) {
	t.Helper()
	q, b, code := impl.BlockOfPlayer(p)
	want(t, "BlockOfPlayer", code, expected)
	wantPlayer(t, "BlockOfPlayer, with an error", q, impl.Player{})
	wantBlock(t, "BlockOfPlayer, with an error", b, impl.Block{})
}

func TestP16PlayersHaveATimeLimit(t *testing.T) {
	const last = 2 * impl.MaxTime
	late := func(before int64) impl.Player {
		return trioWith(t, func(p *impl.Player) { p.Now, p.Next = last-before, 8 })
	}
	for _, before := range []int64{0, 1, 2, 15, 16, 17, impl.MaxPlayed - 1, impl.MaxPlayed} {
		p := late(before)
		q, made := playedOn(t, p, before)
		want(t, "the last steps", q.Now, last)
		want(t, "the last steps", len(made), int(before))
		wantValidPlayer(t, "behind the last steps", q, true)
		if before < impl.MaxPlayed {
			wantNoSamples(t, p, before+1, impl.ErrLimit)
			wantNoSamples(t, p, impl.MaxPlayed, impl.ErrLimit)
		}
		// The count is looked at before the time.
		wantNoSamples(t, p, impl.MaxPlayed+1, impl.ErrRange)
		wantNoSamples(t, p, -1, impl.ErrRange)
		if before < 16 {
			wantNoBlock(t, p, impl.ErrLimit)
		} else {
			_, b, code := impl.BlockOfPlayer(p)
			want(t, "BlockOfPlayer", code, impl.OK)
			wantSamples(t, "BlockOfPlayer", b[:], made[:16])
		}
		if before == 0 {
			wantNoStep(t, p, impl.ErrLimit)
			wantNoSamples(t, p, 1, impl.ErrLimit)
		} else {
			_, a, code := impl.StepPlayer(p)
			want(t, "StepPlayer", code, impl.OK)
			wantSample(t, "StepPlayer", a, made[0])
		}
	}
	// Notes that stop at MaxTime are heard behind it.
	p := trioWith(t, func(p *impl.Player) {
		p.Score.Events[7].At, p.Now, p.Next = impl.MaxTime, impl.MaxTime, 7
	})
	wantPlayed(t, "at MaxTime", p, 100)
}

func TestP16PlayersAtATime(t *testing.T) {
	for n := int64(1); n <= impl.MaxVoices; n++ {
		s := bandScore(t)
		for _, at := range []int64{0, 1, 2, 16, 35, 36, 300, impl.MaxPlayed} {
			p, code := impl.PlayerAt(s, n, at)
			want(t, "PlayerAt", code, impl.OK)
			expected, _ := playedOn(t, newPlayer(s, n), at)
			wantPlayer(t, "PlayerAt", p, expected)
			want(t, "PlayerAt, Now", p.Now, at)
		}
	}
	wantNowhere := func(s impl.Score, voices, at, expected int64) {
		t.Helper()
		p, code := impl.PlayerAt(s, voices, at)
		want(t, "PlayerAt", code, expected)
		wantPlayer(t, "PlayerAt, with an error", p, impl.Player{})
	}
	for _, at := range []int64{-1, impl.MaxPlayed + 1, 1 << 32, 2 * impl.MaxTime, 2*impl.MaxTime + 1, math.MaxInt64, math.MinInt64} {
		wantNowhere(songScore(), 1, at, impl.ErrRange)
	}
	for _, n := range noVoices {
		wantNowhere(songScore(), n, 5, impl.ErrRange)
		wantNowhere(songScore(), n, -5, impl.ErrRange)
	}
	for _, s := range invalidScores() {
		wantNowhere(s, 1, 5, impl.ErrInvalid)
		wantNowhere(s, 0, -1, impl.ErrInvalid)
	}
}

// bandBlocks has the blocks that the band makes with four voices, and the voices
// behind each of them, calculated apart from the program.
var bandBlocks = []struct{ text, voices string }{
	{"00000000 3e800000 3f060000 3f478000 3f800000 3cff0000 3ece3e42 3e608c64 3d92754c bd72125e be356ffe bd8b0f39 3ee8c114 3ec7acd4 3e6db9a0 3e0d9c05", "6! 1 3 5"},
	{"3cd6a1be bbbbb274 3eea9c90 3ec401f9 3e79c28e be40e58e bf206fc7 bf7f66eb bf5a482f be6a4c0e 3e246e18 3ebadd33 3f0f9e7b 3eaa4615 3f11a1b9 3e928b56", "8! 7 9 5!"},
	{"3deec6dc bd2b6a4c bde652cc bdbb57f0 bceea738 3cf00219 3d1fff8e 3d5550a0 3c9fd1cd 3ec0d88b 3f3bd9fc 3f800000 3f800000 3f800000 3f800000 3f800000", "11 12 - -"},
	{"3f800000 3f7d1418 3f70046f 3f62f4c3 3f55e515 3f48d569 3f3bc5bd 3f2eb610 3f21a664 3f1496b7 3f07870b 3ef4eebd 3edacf63 3ec0b00b 3ea690b2 3e8c7159", "11 12 - -"},
	{"3e64a400 3e30654f 3df84d3a 3d8fcfd7 3c9d49d1 3d3b3374 3edad1e4 3f431295 3f800000 3f800000 3f800000 3f800000 3f800000 3f800000 3f7774d8 3f6a5fbe", "11 12 - -"},
	{"3f5d4d16 3f503c41 3f432c32 3f361c83 3f290ce3 3f1bfd3f 3f0eed95 3f01ddea 3ee99c7d 3ecf7d23 3eb55dcb 3e9b3e72 3e811f18 3e4dff80 3e19c0ce 3dcb0438", "11 12 - -"},
	{"3d450daa 3b3a345c 3d79f80c 3eedf49d 3f50c520 3f800000 3f800000 3f800000 3f800000 3f800000 3f800000 3f74c0f5 3f676571 3f5a42cd 3f4d2e60 3f405d59", "11 12! - -"},
	{"3f336d55 3f266993 3f195de2 3f0c4d58 3efe78ef 3ee4583c 3eca3849 3eb018d0 3e95f97a 3e77b450 3e4375ab 3e0f36fd 3db5f099 3d1ca614 3a898750 3dbc5370", "11 12! - -"},
	{"3f03d4f3 3f5bc48d 3f800000 3f800000 3f800000 3f800000 3f800000 3f800000 3f800000 3f800000 3f5216bc 3e8921ec 3f1d0a55 3f032290 3efe9aef 3eec1e20", "11 12! 14 15"},
	{"3ede53a0 3ed18824 3ec487e9 3eedeeed bbb59f63 3e986400 3e314c55 3e2cc7fa 3e0e8ea9 3dea287c 3db73190 3d52f864 3e941842 3dd1b1a2 3f126756 3f1acb5e", "11 12! 14 15"},
	{"3f270624 3f16a982 3f0eb2c5 3f06c994 3eff5535 3ef1a7b7 3edc403e 3e479d10 3e4b48ac 3e3ce4ad 3e2fe304 3e22bfc1 3e15aa8c 3e0898d5 3df710b1 3ddd4df8", "11 12! 14! 15!"},
	{"3dc35cd7 3da94ec6 3d8f3527 3d693b2a 3d34466b 3cff5a10 3c96d96d 3bd5235a 3b47c61d 3d2e5132 3e1f638f 3e71ac65 3e9ae5b8 3e9c88e2 3e90885a 3e8b689b", "11 12! 14! 15!"},
	{"3e849e19 3e7c4113 3e6e95e6 3e51931a 3db726be 3dcb6ce7 3dbaa4f3 3dadf378 3da0db09 3d93cc25 3d86bc67 3d735d9c 3d593f4c 3d3f2038 3d2500ec 3d0acb74", "11 12! 14! 15!"},
}

func TestP16PlayersMakeWhatWasCalculated(t *testing.T) {
	p := newPlayer(bandScore(t), 4)
	for i, expected := range bandBlocks {
		q, b, code := impl.BlockOfPlayer(p)
		want(t, "BlockOfPlayer", code, impl.OK)
		want(t, fmt.Sprint("block ", i), impl.BlockText(b), expected.text)
		want(t, fmt.Sprint("the voices behind block ", i), notesIn(q), expected.voices)
		p = q
	}
	want(t, "Skipped", p.Skipped, 1)
}
