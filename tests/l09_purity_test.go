package tests

import (
	"fmt"
	"math"
	"runtime"
	"slices"
	"strings"
	"testing"

	"loop.example/g01173/impl"
)

func answersOfPlayers(p, q impl.Player, n int64) string {
	list := []any{impl.ValidPlayer(p), impl.SamePlayer(p, q), impl.PlayerText(p), impl.FreeVoice()}
	fresh, code := impl.NewPlayer(p.Score, n)
	list = append(list, fresh, code)
	at, code := impl.PlayerAt(p.Score, n, n*5)
	list = append(list, at, code)
	for _, v := range p.Voices[:min(len(p.Voices), 10)] {
		list = append(list, impl.ValidVoice(q.Score, v), impl.ValidVoice(p.Score, v))
	}
	for _, e := range p.Score.Events[:min(len(p.Score.Events), 10)] {
		v, code := impl.VoiceFor(q.Score, e)
		list = append(list, v, code)
		v, code = impl.VoiceFor(p.Score, e)
		list = append(list, v, code)
	}
	behind, a, code := impl.StepPlayer(p)
	list = append(list, behind, a, code)
	behind, made, code := impl.PlaySamples(p, n)
	list = append(list, behind, made, code)
	behind, b, code := impl.BlockOfPlayer(p)
	list = append(list, behind, b, code)
	notes, code := impl.SoundingIn(p)
	list = append(list, len(notes), notes, code)
	ended, code := impl.HasEnded(p)
	list = append(list, ended, code)
	read, code := impl.ReadPlayer(q.Score, impl.PlayerText(p))
	return writtenDown(append(list, read, code)...)
}

func TestP1ReturnsTheSameForAllPlayers(t *testing.T) {
	random := newRandom()
	all := append(invalidPlayers(t), trio(t), playerOfText(t))
	for range 60 {
		all = append(all, anyPlayer(t, random))
	}
	numbers := []int64{math.MinInt64, -1, 0, 1, 2, 6, 7, 16, 50, impl.MaxPlayed + 1, math.MaxInt64}
	for i, p := range all {
		q := all[(i*7+1)%len(all)]
		before := writtenDown(p, q)
		for j := range 3 {
			n := numbers[(i+5*j)%len(numbers)]
			first := answersOfPlayers(p, q, n)
			want(t, "the second time", answersOfPlayers(p, q, n), first)
			want(t, "of itself", answersOfPlayers(p, p, n), answersOfPlayers(copiedPlayer(p), p, n))
		}
		want(t, "the arguments", writtenDown(p, q), before)
	}
}

func TestP1PlayersDoNotDependOnGoroutines(t *testing.T) {
	defer runtime.GOMAXPROCS(runtime.GOMAXPROCS(0))
	random := newRandom()
	players := []impl.Player{newPlayer(bandScore(t), impl.MaxVoices), newPlayer(bandScore(t), 3)}
	for range 6 {
		players = append(players, anyPlayer(t, random))
	}
	for _, p := range players {
		p = copiedPlayer(p)
		p.Now = min(p.Now, 2*impl.MaxTime-400)
		_, expected := toldPlay(p, 300)
		for _, n := range []int{1, 2, 8, 1, 16} {
			runtime.GOMAXPROCS(n)
			for range 5 {
				_, made := playedOn(t, p, 300)
				wantSamples(t, "the samples", made, expected)
			}
		}
	}
}

// memory has all that lies around the lists of a player.
type memory struct {
	samples     []float32
	rings       []impl.Ring
	degrees     []float32
	instruments []impl.Instrument
	events      []impl.Event
	voices      []impl.Voice
}

func (m memory) written() string {
	return writtenDown(m.samples, m.rings, m.degrees, m.instruments, m.events, m.voices)
}

func (m memory) overwrite() {
	overwrite(m.samples)
	overwriteRings(m.rings)
	overwrite(m.degrees)
	overwriteInstruments(m.instruments)
	overwriteEvents(m.events)
	overwriteVoices(m.voices)
}

func overwriteRings(list []impl.Ring) {
	list = list[:cap(list)]
	for i := range list {
		list[i] = impl.Ring{At: -77}
	}
}

func overwriteVoices(list []impl.Voice) {
	list = list[:cap(list)]
	for i := range list {
		list[i] = impl.Voice{Note: -77}
	}
}

// sparePlayer has lists that lie in the middle of their memory, so that they have
// unused capacity, even where they are empty. The notes 0, 1 and 2 sound; their
// rings are one and the same list if shared is true.
func sparePlayer(t *testing.T, shared bool) (impl.Player, memory) {
	t.Helper()
	p := trio(t)
	m := memory{samples: make([]float32, 60), rings: make([]impl.Ring, 12)}
	for i := range m.samples {
		m.samples[i] = float32(i+1) / 64
	}
	k := 0
	ring := func() impl.Ring {
		k += pick(shared, 0, 10)
		return impl.Ring{Samples: m.samples[k+2 : k+5], At: 1}
	}
	p.Voices[0].String.Loop = ring()
	m.rings[2], m.rings[7] = ring(), ring()
	p.Voices[1].Pipe.Right, p.Voices[1].Pipe.Left, p.Voices[1].Pipe.Scatter = m.rings[2:3], m.rings[7:8], m.samples[57:57]
	p.Voices[2].Bow.Neck, p.Voices[2].Bow.Bridge = ring(), ring()
	for i := range p.Voices {
		v := &p.Voices[i]
		if i != 1 {
			v.Pipe = impl.Pipe{Right: m.rings[3:3], Left: m.rings[8:8], Scatter: m.samples[58:58]}
		}
		if i != 2 {
			v.Bow.Neck.Samples, v.Bow.Bridge.Samples = m.samples[57:57], m.samples[58:58]
		}
		if i != 0 {
			v.String.Loop.Samples = m.samples[58:58]
		}
	}
	voices := slices.Concat([]impl.Voice{{Note: 91}}, p.Voices, []impl.Voice{{Note: 92}, {Note: 93}})
	p.Voices, m.voices = voices[1:5], voices
	m.degrees = slices.Concat([]float32{91}, p.Score.Tuning.Degrees, []float32{92})
	p.Score.Tuning.Degrees = m.degrees[1:13]
	m.instruments = slices.Concat(oneString(), p.Score.Instruments, oneString())
	p.Score.Instruments = m.instruments[1:4]
	m.events = slices.Concat([]impl.Event{{At: 91}}, p.Score.Events, []impl.Event{{At: 92}})
	p.Score.Events = m.events[1:9]
	wantValidPlayer(t, "the spare one", p, true)
	return p, m
}

// listOfPlayer is one of its lists, which can be overwritten, and told without
// those that lie in it.
type listOfPlayer struct {
	spoil func()
	told  func() string
}

func samplesList(samples []float32) listOfPlayer {
	return listOfPlayer{func() { overwrite(samples) }, func() string { return writtenDown(samples) }}
}

func ringsList(rings []impl.Ring) listOfPlayer {
	return listOfPlayer{func() { overwriteRings(rings) }, func() string {
		var at []int64
		for _, r := range rings {
			at = append(at, r.At)
		}
		return fmt.Sprint(at)
	}}
}

func voicesList(voices []impl.Voice) listOfPlayer {
	return listOfPlayer{func() { overwriteVoices(voices) }, func() string { return notesIn(impl.Player{Voices: voices}) }}
}

func listsOf(p impl.Player) []listOfPlayer {
	list := []listOfPlayer{
		samplesList(p.Score.Tuning.Degrees), voicesList(p.Voices),
		{func() { overwriteInstruments(p.Score.Instruments) }, func() string { return writtenDown(p.Score.Instruments) }},
		{func() { overwriteEvents(p.Score.Events) }, func() string { return writtenDown(p.Score.Events) }},
	}
	for _, v := range p.Voices {
		list = append(list, samplesList(v.String.Loop.Samples), samplesList(v.Bow.Neck.Samples), samplesList(v.Bow.Bridge.Samples), samplesList(v.Pipe.Scatter), ringsList(v.Pipe.Right), ringsList(v.Pipe.Left))
		for _, r := range slices.Concat(v.Pipe.Right, v.Pipe.Left) {
			list = append(list, samplesList(r.Samples))
		}
	}
	return list
}

// wantSpoiltAlone overwrites one list after the other.
func wantSpoiltAlone(t *testing.T, name string, lists []listOfPlayer) {
	t.Helper()
	for k, one := range lists {
		var before []string
		for _, other := range lists {
			before = append(before, other.told())
		}
		one.spoil()
		for j, other := range lists {
			if j != k && other.told() != before[j] {
				t.Errorf("%s: the lists %d and %d share memory", name, k, j)
			}
		}
	}
}

// changersOfPlayers return players that p becomes, or is read from.
func changersOfPlayers() []func(p impl.Player) impl.Player {
	return []func(p impl.Player) impl.Player{
		func(p impl.Player) impl.Player { q, _, _ := impl.StepPlayer(p); return q },
		func(p impl.Player) impl.Player { q, _, _ := impl.PlaySamples(p, 0); return q },
		func(p impl.Player) impl.Player { q, _, _ := impl.PlaySamples(p, 2); return q },
		func(p impl.Player) impl.Player { q, _, _ := impl.PlaySamples(p, 300); return q },
		func(p impl.Player) impl.Player { q, _, _ := impl.BlockOfPlayer(p); return q },
		func(p impl.Player) impl.Player { q, _ := impl.NewPlayer(p.Score, 6); return q },
		func(p impl.Player) impl.Player { q, _ := impl.PlayerAt(p.Score, 4, 0); return q },
		func(p impl.Player) impl.Player { q, _ := impl.PlayerAt(p.Score, 4, 12); return q },
		func(p impl.Player) impl.Player { q, _ := impl.ReadPlayer(p.Score, impl.PlayerText(p)); return q },
		func(p impl.Player) impl.Player {
			q := newPlayer(p.Score, 3)
			q.Now, q.Next = 5, 4
			for i, e := range []int{0, 1, 2} {
				q.Voices[i], _ = impl.VoiceFor(p.Score, p.Score.Events[e])
			}
			return q
		},
		func(p impl.Player) impl.Player {
			answersOfPlayers(p, p, 3)
			return newPlayer(songScore(), 2)
		},
	}
}

func TestP1PlayersShareNoMemory(t *testing.T) {
	for i, change := range changersOfPlayers() {
		for _, shared := range []bool{false, true} {
			p, m := sparePlayer(t, shared)
			before := m.written()
			first, second := change(p), change(p)
			wantValidPlayer(t, "the first one", first, true)
			want(t, "the memory", m.written(), before)
			kept := writtenDown(second)
			want(t, "the first one", writtenDown(first), kept)
			wantSpoiltAlone(t, fmt.Sprint("change ", i), listsOf(first))
			want(t, "the memory behind", m.written(), before)
			want(t, "the second one", writtenDown(second), kept)
			m.overwrite()
			if writtenDown(second) != kept {
				t.Errorf("change %d: the second one shares memory", i)
			}
		}
	}
}

func TestP1SamplesOfPlayersAreNew(t *testing.T) {
	p := trio(t)
	q, made := playedOn(t, p, 40)
	kept := writtenDown(p, q)
	_, again := playedOn(t, p, 40)
	overwrite(made)
	want(t, "the players", writtenDown(p, q), kept)
	_, once := playedOn(t, p, 40)
	wantSamples(t, "the samples", again, once)
	notes, _ := impl.SoundingIn(p)
	notes = notes[:cap(notes)]
	for i := range notes {
		notes[i] = -77
	}
	want(t, "the player", writtenDown(p, q), kept)
	wantSounding(t, "the trio", p, 0, 1, 2)
}

func TestP1ReturnsForLongArgumentsOfChapter9(t *testing.T) {
	long := impl.Ring{Samples: make([]float32, 150000)}
	list := []impl.Player{
		{Score: songScore(), Voices: make([]impl.Voice, 100000)}, {Score: songScore(), Voices: slices.Repeat([]impl.Voice{impl.FreeVoice()}, 100000)}, {Score: firstScore(nil, make([]impl.Event, 150000)...), Voices: []impl.Voice{impl.FreeVoice()}},
		trioWith(t, func(p *impl.Player) { p.Voices[0].String.Loop = long }), trioWith(t, func(p *impl.Player) { p.Voices[1].Pipe.Right[0], p.Voices[1].Pipe.Left[0] = long, long }), trioWith(t, func(p *impl.Player) { p.Voices[2].Bow.Neck = long }),
		trioWith(t, func(p *impl.Player) { p.Voices[3].Pipe.Right = make([]impl.Ring, 100000) }), trioWith(t, func(p *impl.Player) { p.Voices[3].Bow.Bridge = long }), trioWith(t, func(p *impl.Player) { p.Voices[0].Pipe.Scatter = make([]float32, 900000) }),
	}
	for _, p := range list {
		wantValidPlayer(t, "a long one", p, false)
		want(t, "SamePlayer", impl.SamePlayer(p, copiedPlayer(p)), true)
		want(t, "SamePlayer", impl.SamePlayer(p, trio(t)), false)
		want(t, "PlayerText", impl.PlayerText(p), "")
		wantNoSamples(t, p, 5, impl.ErrInvalid)
		wantNoStep(t, p, impl.ErrInvalid)
		wantNoBlock(t, p, impl.ErrInvalid)
	}
	s := songScore()
	for _, text := range []string{"\n", " ", "free\n", "voice ", "player 0 0 0\n", "\x00", "\xff"} {
		wantNoReadPlayer(t, s, strings.Repeat(text, 1000000), impl.ErrRange)
		wantNoReadPlayer(t, s, strings.Repeat(text, 199000/len(text)), impl.ErrSyntax)
		wantNoReadPlayer(t, s, "player 0 0 0\n"+strings.Repeat(text, 199000/len(text)), impl.ErrSyntax)
	}
	for _, text := range []string{"voice 0 0 0 held 00000000\n", "voice 0 0 0 held 00000000\n" + textOfString, "voice 0 0 0 held 00000000\nfree\n", "free\nvoice\n", "0 0 00000000\n"} {
		wantNoReadPlayer(t, s, "player 0 0 0\n"+strings.Repeat(text, 199000/len(text)), impl.ErrSyntax)
	}
}

func TestP1NilAndEmptyListsAreEquivalentForPlayers(t *testing.T) {
	none := newPlayer(firstScore(nil), 2)
	none.Score.Events = nil
	empty := copiedPlayer(none)
	empty.Score.Instruments, empty.Score.Events = []impl.Instrument{}, []impl.Event{}
	for i := range empty.Voices {
		v := &empty.Voices[i]
		v.String.Loop.Samples, v.Pipe = []float32{}, impl.Pipe{Right: []impl.Ring{}, Left: []impl.Ring{}, Scatter: []float32{}}
		v.Bow.Neck.Samples, v.Bow.Bridge.Samples = []float32{}, []float32{}
	}
	want(t, "SamePlayer", impl.SamePlayer(none, empty) && impl.SamePlayer(empty, none), true)
	want(t, "answers", answersOfPlayers(none, empty, 5), answersOfPlayers(empty, none, 5))
	none.Voices, empty.Voices = nil, []impl.Voice{}
	want(t, "SamePlayer", impl.SamePlayer(none, empty), true)
	want(t, "answers", answersOfPlayers(none, empty, 5), answersOfPlayers(empty, none, 5))
	p, _ := sparePlayer(t, false)
	want(t, "SamePlayer", impl.SamePlayer(p, copiedPlayer(p)), true)
}
