package tests

import (
	"math"
	"slices"
	"testing"

	"loop.example/g01173/impl"
)

func wantValidPlayer(t *testing.T, name string, p impl.Player, expected bool) {
	t.Helper()
	if impl.ValidPlayer(p) != expected {
		t.Errorf("%s: ValidPlayer %+v: want %v", name, p, expected)
	}
}

var noVoices = []int64{0, -1, impl.MaxVoices + 1, 1 << 32, 1<<32 + 1, -1 << 32, math.MaxInt64, math.MinInt64}

func TestP16NewPlayers(t *testing.T) {
	for _, s := range validScores() {
		for n := int64(1); n <= 6; n++ {
			p, code := impl.NewPlayer(s, n)
			want(t, "NewPlayer", code, impl.OK)
			wantPlayer(t, "NewPlayer", p, impl.Player{Score: s, Voices: slices.Repeat([]impl.Voice{{Note: -1}}, int(n))})
			wantValidPlayer(t, "NewPlayer", p, true)
		}
	}
	for _, n := range noVoices {
		wantNoPlayer(t, songScore(), n, impl.ErrRange)
	}
	for _, s := range invalidScores() {
		wantNoPlayer(t, s, 1, impl.ErrInvalid)
		wantNoPlayer(t, s, 0, impl.ErrInvalid)
	}
}

func wantNoPlayer(t *testing.T, s impl.Score, voices, expected int64) {
	t.Helper()
	p, code := impl.NewPlayer(s, voices)
	if code != expected {
		t.Errorf("NewPlayer with %d voices: got %d, want %d", voices, code, expected)
	}
	wantPlayer(t, "NewPlayer, with an error", p, impl.Player{})
}

// invalidPlayers break one rule each.
func invalidPlayers(t *testing.T) []impl.Player {
	list := []impl.Player{{}, {Score: songScore()}, {Score: songScore(), Voices: []impl.Voice{}}, {Voices: []impl.Voice{impl.FreeVoice()}}, {Score: songScore(), Voices: []impl.Voice{{}}}}
	with := func(change func(p *impl.Player)) { list = append(list, trioWith(t, change)) }
	for _, s := range invalidScores() {
		with(func(p *impl.Player) { p.Score = s })
	}
	// Voices that are free are those of any score, but those of the trio are not.
	with(func(p *impl.Player) { p.Score = songScore() })
	for _, n := range []int64{-1, 1, -2, 2, 3, 4, -4, 1 << 32, math.MaxInt64, math.MinInt64} {
		with(func(p *impl.Player) { p.Next += n })
	}
	for _, n := range []int64{-1, impl.MaxNotes + 1, 1 << 32, math.MaxInt64, math.MinInt64} {
		with(func(p *impl.Player) { p.Skipped = n })
	}
	for _, n := range []int64{-1, 2*impl.MaxTime + 1, 1 << 32, math.MaxInt64, math.MinInt64} {
		with(func(p *impl.Player) { p.Now = n })
		with(func(p *impl.Player) { p.Now, p.Next, p.Voices = n, pick[int64](n < 0, 0, 8), p.Voices[3:] })
	}
	// At 2 and before it, voices have not been born.
	for now, next := range []int64{0, 1, 1} {
		with(func(p *impl.Player) { p.Now, p.Next = int64(now), next })
	}
	with(func(p *impl.Player) { p.Voices = append(p.Voices, p.Voices[3], p.Voices[3], p.Voices[3]) })
	for i := range 3 {
		with(func(p *impl.Player) { p.Voices[3] = p.Voices[i] })
		with(func(p *impl.Player) { p.Voices = append([]impl.Voice{p.Voices[i]}, p.Voices...) })
		with(func(p *impl.Player) { p.Voices[i].Drive = nan })
		with(func(p *impl.Player) { p.Voices[i].Note = 3 })
		with(func(p *impl.Player) { p.Voices[i].Born++ })
		with(func(p *impl.Player) { p.Voices[i].Instrument = 1 - p.Voices[i].Instrument })
	}
	with(func(p *impl.Player) { p.Voices[0].String.Loss = infinite })
	with(func(p *impl.Player) { p.Voices[1].Pipe.Left[0].Samples[1] = nan })
	with(func(p *impl.Player) { p.Voices[2].Bow.Neck.At = 100 })
	with(func(p *impl.Player) { p.Voices[3].Born = 1 })
	with(func(p *impl.Player) { p.Voices[3].Note = -2 })
	with(func(p *impl.Player) { p.Voices[3].Gone = true })
	with(func(p *impl.Player) { p.Voices[3].Drive = minusZero })
	return list
}

func TestP16ValidPlayers(t *testing.T) {
	for _, p := range invalidPlayers(t) {
		wantValidPlayer(t, "one that is not", p, false)
	}
	with := func(change func(p *impl.Player)) {
		t.Helper()
		wantValidPlayer(t, "with a change", trioWith(t, change), true)
	}
	with(func(p *impl.Player) {})
	for _, n := range []int64{0, 1, 4, 5, impl.MaxNotes} {
		with(func(p *impl.Player) { p.Skipped = n })
	}
	// The events of the trio are at 0, 2, 2, 4, 9, 29, 90 and 92.
	for now, next := range map[int64]int64{3: 3, 4: 3, 5: 4, 9: 4, 10: 5, 29: 5, 30: 6, 90: 6, 91: 7, 92: 7, 93: 8, 94: 8, 2*impl.MaxTime - 1: 8, 2 * impl.MaxTime: 8} {
		with(func(p *impl.Player) { p.Now, p.Next = now, next })
		for _, n := range []int64{next - 1, next + 1} {
			wantValidPlayer(t, "with another Next", trioWith(t, func(p *impl.Player) { p.Now, p.Next = now, n }), false)
		}
	}
	with(func(p *impl.Player) { p.Now, p.Next, p.Voices = 0, 0, p.Voices[3:] })
	with(func(p *impl.Player) { p.Now, p.Next, p.Voices = 2, 1, p.Voices[1:2] })
	with(func(p *impl.Player) { p.Voices = append(p.Voices, p.Voices[3], p.Voices[3]) })
	for i := range 4 {
		with(func(p *impl.Player) { p.Voices = p.Voices[i : i+1] })
		with(func(p *impl.Player) { p.Voices = append(p.Voices[i:], p.Voices[:i]...) })
	}
	for i := range 3 {
		with(func(p *impl.Player) { p.Voices[i].Gone = true })
		with(func(p *impl.Player) { p.Voices[i].Gone = false })
		with(func(p *impl.Player) { p.Voices[i].Drive = minusZero })
		with(func(p *impl.Player) { p.Voices[i].Drive = greatest })
	}
	with(func(p *impl.Player) { p.Voices[0].String.Loop.Samples[0] = nan })
	random := newRandom()
	for range 300 {
		wantValidPlayer(t, "any", anyPlayer(t, random), true)
	}
}

// changesOfPlayers change one thing each of the trio.
func changesOfPlayers() []func(p *impl.Player) {
	list := []func(p *impl.Player){
		func(p *impl.Player) { p.Now++ }, func(p *impl.Player) { p.Next++ }, func(p *impl.Player) { p.Skipped++ },
		func(p *impl.Player) { p.Voices = p.Voices[:3] }, func(p *impl.Player) { p.Voices = append(p.Voices, impl.FreeVoice()) },
		func(p *impl.Player) { p.Voices[0], p.Voices[1] = p.Voices[1], p.Voices[0] },
		func(p *impl.Player) { p.Score.Rate++ }, func(p *impl.Player) { p.Score.Tuning.Base++ }, func(p *impl.Player) { p.Score.Instruments[1].C = minusZero },
		func(p *impl.Player) { p.Score.Events[7].At++ }, func(p *impl.Player) { p.Score.Events[0].Force = -p.Score.Events[0].Force },
		func(p *impl.Player) { p.Voices[0].String.Loop.Samples[1]++ }, func(p *impl.Player) { p.Voices[1].Pipe.Right[0].Samples[1]++ }, func(p *impl.Player) { p.Voices[2].Bow.Bridge.Samples[0]-- },
	}
	for i := range 4 {
		list = append(list, func(p *impl.Player) { p.Voices[i].Note++ })
		for _, change := range changesOfNothing()[:5] {
			list = append(list, func(p *impl.Player) {
				if i < 3 {
					p.Voices[i].Instrument, p.Voices[i].Born, p.Voices[i].Gone = 7, 7, false
				}
				change(&p.Voices[i])
			})
		}
		for _, change := range changesOfNothing()[5:] {
			list = append(list, func(p *impl.Player) { change(&p.Voices[i]) })
		}
	}
	return list
}

func TestP16SamePlayers(t *testing.T) {
	p := trio(t)
	want(t, "SamePlayer", impl.SamePlayer(p, copiedPlayer(p)), true)
	for i, change := range changesOfPlayers() {
		q := trioWith(t, change)
		expected := writtenDown(p) == writtenDown(q)
		if impl.SamePlayer(p, q) != expected || impl.SamePlayer(q, p) != expected {
			t.Errorf("change %d: SamePlayer: want %v", i, expected)
		}
		want(t, "SamePlayer of itself", impl.SamePlayer(q, copiedPlayer(q)), true)
	}
	list := invalidPlayers(t)
	for i, q := range list {
		want(t, "SamePlayer of itself", impl.SamePlayer(q, copiedPlayer(q)), true)
		u := list[(i*11+3)%len(list)]
		want(t, "SamePlayer of two", impl.SamePlayer(q, u), writtenDown(q) == writtenDown(u))
	}
	first := trioWith(t, func(p *impl.Player) {
		p.Voices[1].Drive, p.Voices[0].String.Loop.Samples[0], p.Score.Rate = nan, otherNaN, nan
	})
	second := trioWith(t, func(p *impl.Player) {
		p.Voices[1].Drive, p.Voices[0].String.Loop.Samples[0], p.Score.Rate = otherNaN, nan, -nan
	})
	want(t, "SamePlayer with NaN", impl.SamePlayer(first, second), true)
}

func TestP16SoundingNotes(t *testing.T) {
	p := trio(t)
	wantSounding(t, "the trio", p, 0, 1, 2)
	wantSounding(t, "two of them", trioWith(t, func(p *impl.Player) { p.Voices = []impl.Voice{p.Voices[3], p.Voices[0], p.Voices[3], p.Voices[1]} }), 0, 2)
	wantSounding(t, "one of them", trioWith(t, func(p *impl.Player) { p.Voices = p.Voices[2:] }), 1)
	wantSounding(t, "none", trioWith(t, func(p *impl.Player) { p.Voices = p.Voices[3:] }))
	wantSounding(t, "a new one", newPlayer(songScore(), 6))
	random := newRandom()
	for range 200 {
		p := anyPlayer(t, random)
		var notes []int64
		for note := range int64(impl.MaxNotes) {
			for _, v := range p.Voices {
				if v.Note == note {
					notes = append(notes, note)
				}
			}
		}
		wantSounding(t, "any", p, notes...)
	}
	for _, p := range invalidPlayers(t) {
		notes, code := impl.SoundingIn(p)
		want(t, "SoundingIn", code, impl.ErrInvalid)
		want(t, "SoundingIn, with an error", len(notes), 0)
	}
}

func TestP16EndedPlayers(t *testing.T) {
	wantEnded(t, "without an event", newPlayer(firstScore(nil), 2), true)
	wantEnded(t, "at the beginning", newPlayer(songScore(), 2), false)
	ended := func(now, next int64, first, last int) bool {
		t.Helper()
		p := trioWith(t, func(p *impl.Player) { p.Now, p.Next, p.Voices = now, next, p.Voices[first:last] })
		ended, code := impl.HasEnded(p)
		want(t, "HasEnded", code, impl.OK)
		return ended
	}
	want(t, "behind all", ended(93, 8, 3, 4), true)
	want(t, "with one event to come", ended(92, 7, 3, 4), false)
	want(t, "with all events to come", ended(0, 0, 3, 4), false)
	for i := range 3 {
		want(t, "with a voice", ended(93, 8, i, i+1), false)
		want(t, "with a voice, and a free one", ended(93, 8, i, 4), false)
	}
	for _, p := range invalidPlayers(t) {
		ended, code := impl.HasEnded(p)
		want(t, "HasEnded", code, impl.ErrInvalid)
		want(t, "HasEnded, with an error", ended, false)
	}
}
