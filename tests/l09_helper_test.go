package tests

import (
	"math"
	"math/rand/v2"
	"slices"
	"testing"

	"loop.example/g01173/impl"
)

// wantPlayer and wantVoice go by the bits of all numbers.
func wantPlayer(t *testing.T, name string, got, expected impl.Player) {
	t.Helper()
	if g, e := writtenDown(got), writtenDown(expected); g != e {
		t.Errorf("%s: got %+v, want %+v", name, got, expected)
	}
}

func wantVoice(t *testing.T, name string, got, expected impl.Voice) {
	t.Helper()
	if g, e := writtenDown(got), writtenDown(expected); g != e {
		t.Errorf("%s: got %+v, want %+v", name, got, expected)
	}
}

func wantSounding(t *testing.T, name string, p impl.Player, expected ...int64) {
	t.Helper()
	notes, code := impl.SoundingIn(p)
	if code != impl.OK || !slices.Equal(notes, expected) {
		t.Errorf("%s: SoundingIn: got %v, %d, want %v", name, notes, code, expected)
	}
}

func wantEnded(t *testing.T, name string, p impl.Player, expected bool) {
	t.Helper()
	ended, code := impl.HasEnded(p)
	if code != impl.OK || ended != expected {
		t.Errorf("%s: HasEnded: got %v, %d, want %v", name, ended, code, expected)
	}
}

// newPlayer is for scores and numbers of voices that NewPlayer takes.
func newPlayer(s impl.Score, voices int64) impl.Player {
	p, _ := impl.NewPlayer(s, voices)
	return p
}

// playedOn is for counts that PlaySamples takes.
func playedOn(t *testing.T, p impl.Player, count int64) (impl.Player, []float32) {
	t.Helper()
	p, made, code := impl.PlaySamples(p, count)
	want(t, "PlaySamples", code, impl.OK)
	return p, made
}

const freeNote = -1

// toldVoice is VoiceFor of the document, written down once more, for a start of
// a valid score.
func toldVoice(s impl.Score, e impl.Event) (impl.Voice, bool) {
	hertz, hasHertz := hertzOfKey(s.Tuning, e.Key)
	if !hasHertz {
		return impl.Voice{}, false
	}
	period := quoOf(s.Rate, hertz)
	whole := func(a float32) int64 { return int64(math.Floor(min(float64(a), 5000))) }
	x := s.Instruments[e.Instrument]
	v := impl.Voice{Note: e.Note, Instrument: e.Instrument, Born: e.At}
	var code, other int64
	switch x.Kind {
	case impl.IkString:
		v.String, code = impl.NewString(period, x.A, x.B)
		v.String, other = impl.PluckString(v.String, x.C, e.Force)
	case impl.IkPipe:
		length := whole(quoOf(period, pick[float32](x.C == 1, 2, 4)))
		v.Drive = e.Force
		v.Pipe, code = impl.NewPipe([]int64{length}, []float32{}, x.C == 1, x.A, x.B)
	case impl.IkBow:
		v.Drive = e.Force
		v.Bow, code = impl.NewBow(whole(period), 0.125, x.A, x.B, x.C)
	}
	return v, code == impl.OK && other == impl.OK
}

// toldPlay makes steps as the document tells them, one after the other.
func toldPlay(p impl.Player, count int64) (impl.Player, []float32) {
	p.Voices = slices.Clone(p.Voices)
	var made []float32
	for range count {
		for _, e := range p.Score.Events {
			if e.At == p.Now {
				toldEvent(&p, e)
				p.Next++
			}
		}
		sum := float32(0)
		for i := range p.Voices {
			if p.Voices[i].Note != freeNote {
				sum = sumOf(sum, toldSound(&p.Voices[i]))
			}
		}
		made = append(made, clampOf(sum))
		for i, v := range p.Voices {
			if v.Gone && isQuietVoice(v) {
				p.Voices[i] = impl.Voice{Note: freeNote}
			}
		}
		p.Now++
	}
	return p, made
}

func toldEvent(p *impl.Player, e impl.Event) {
	if e.Kind == impl.EvStop {
		for i := range p.Voices {
			if v := &p.Voices[i]; v.Note == e.Note {
				v.Gone = true
				v.String.Loss = proOf(v.String.Loss, 0.5)
				v.Drive = 0
			}
		}
		return
	}
	v, canSound := toldVoice(p.Score, e)
	if !canSound {
		p.Skipped++
		return
	}
	p.Voices[toldPlace(p.Voices)] = v
}

func toldPlace(voices []impl.Voice) int {
	for i, v := range voices {
		if v.Note == freeNote {
			return i
		}
	}
	place := len(voices) - 1
	for i := place; i >= 0; i-- {
		if voices[i].Born <= voices[place].Born {
			place = i
		}
	}
	return place
}

// toldSound goes by what the voice has.
func toldSound(v *impl.Voice) float32 {
	var made float32
	switch {
	case len(v.String.Loop.Samples) > 0:
		v.String, made = stepOfString(v.String, 0)
	case len(v.Pipe.Right) > 0:
		v.Pipe, made = stepOfPipe(v.Pipe, v.Drive)
	default:
		v.Bow, made = stepOfBow(v.Bow, v.Drive)
	}
	return made
}

// isQuietVoice looks at all samples and states.
func isQuietVoice(v impl.Voice) bool {
	list := slices.Concat(v.String.Loop.Samples, v.String.Tune.S[:], v.String.Damp.S[:], v.Pipe.End.S[:])
	for _, r := range slices.Concat(v.Pipe.Right, v.Pipe.Left) {
		list = append(list, r.Samples...)
	}
	return !slices.ContainsFunc(list, func(a float32) bool { return a != 0 }) && bows().isQuiet(v.Bow)
}

// bandInstruments have short periods with the rate 4000, and come to silence soon.
const bandInstruments = "rate 4000\nstring a 1/4 1/8 1/2\nstring e 0 1 1/8\npipe b 1/4 1/2 open\npipe c 0 1/8 closed\nbow d 1/4 1/4 3\nbow f 0 1/2 1/2\n"

// bandText has notes of all instruments, several at one time, one that has no
// voice, and more than voices.
const bandText = bandInstruments + "play a 0 1 30\nplay b 12 1/2 20\nplay c -12 -3/4 0\nat 5\nplay d 0 1/4 30\nplay e 100 1 9\nplay e 7 1/2 25\nplay f 3 -1/8 5\n" +
	"wait 15\nplay a 0 -2 100\nplay a -5 1 0\nplay b -12 1/4 60\nat 35\nplay c 0 1 10\nplay d -24 1/2 200\nat 40\nplay e -20 5/4 70\nplay a 2 0 0\nat 130\nplay f 0 1 30\nplay a 12 1 40\n"

func bandScore(t *testing.T) impl.Score {
	t.Helper()
	return compiled(t, bandText)
}

// randomBand has all instruments, and many notes at one time.
func randomBand(t *testing.T, r *rand.Rand) impl.Score {
	t.Helper()
	s := compiled(t, bandInstruments)
	s.Rate = []float32{4000, 4000, 1000, 22050}[r.IntN(4)]
	s.Tuning = equalTuning(440, 1+r.Int64N(19))
	within := []int64{1, 10, 60, 300}[r.IntN(4)]
	var notes []note
	for range r.IntN(13) {
		n := note{from: r.Int64N(within), instrument: r.Int64N(6), key: r.Int64N(60) - 30}
		n.to = n.from + []int64{0, 1, r.Int64N(20), r.Int64N(200)}[r.IntN(4)]
		n.force = []float32{1, 0.5, -0.75, 0, minusZero, 1e20, -greatest}[r.IntN(7)]
		notes = append(notes, n)
	}
	s.Events = eventsOf(notes)
	return s
}

// sounding has any voice for a note of a valid score, with a body of all kinds of
// samples.
func sounding(r *rand.Rand, s impl.Score, number int64) impl.Voice {
	n := notesOf(s)[number]
	v := impl.Voice{Note: number, Instrument: n.instrument, Born: n.from, Gone: r.IntN(2) == 0}
	v.Drive = finiteSamples[r.IntN(len(finiteSamples))]
	switch s.Instruments[n.instrument].Kind {
	case impl.IkString:
		v.String = anyOf(r, manyStrings)
	case impl.IkPipe:
		v.Pipe = anyOf(r, manyPipes)
	case impl.IkBow:
		v.Bow = anyOf(r, manyBows)
	}
	return v
}

// All of these are short, so that tests may have many of them.
var (
	manyStrings = slices.DeleteFunc(validStrings(), func(x impl.String) bool { return len(x.Loop.Samples) > 100 })
	manyPipes   = slices.DeleteFunc(validPipes(), func(x impl.Pipe) bool {
		return slices.ContainsFunc(x.Right, func(r impl.Ring) bool { return len(r.Samples) > 100 })
	})
	manyBows = slices.DeleteFunc(bows().valid(), func(x impl.Bow) bool { return len(x.Neck.Samples) > 100 })
)

func anyOf[T any](r *rand.Rand, list []T) T {
	return list[r.IntN(len(list))]
}

// anyPlayer has any time, and any voices that have been born before it.
func anyPlayer(t *testing.T, r *rand.Rand) impl.Player {
	p := impl.Player{Score: randomBand(t, r), Now: []int64{0, 1, r.Int64N(30), r.Int64N(400), 2*impl.MaxTime - 100}[r.IntN(5)]}
	p.Skipped = r.Int64N(20)
	for _, e := range p.Score.Events {
		p.Next += pick(e.At < p.Now, int64(1), 0)
	}
	notes := notesOf(p.Score)
	order := r.Perm(len(notes))
	for range 1 + r.IntN(impl.MaxVoices) {
		p.Voices = append(p.Voices, impl.FreeVoice())
	}
	for i := range p.Voices {
		if i < len(order) && notes[order[i]].from < p.Now && r.IntN(4) > 0 {
			p.Voices[i] = sounding(r, p.Score, int64(order[i]))
		}
	}
	return p
}

// copiedPlayer shares no memory with p, so that tests may change it.
func copiedPlayer(p impl.Player) impl.Player {
	p.Score = copiedScore(p.Score)
	p.Voices = slices.Clone(p.Voices)
	for i, v := range p.Voices {
		v.String.Loop.Samples = slices.Clone(v.String.Loop.Samples)
		v.Pipe = copiedPipe(v.Pipe)
		v.Bow = bows().copied(v.Bow)
		p.Voices[i] = v
	}
	return p
}

// trio has a string, a pipe and a bow, one behind the other, that sound for the
// notes 2, 0 and 1, and a free voice; the note 3 will come.
func trio(t *testing.T) impl.Player {
	t.Helper()
	s := compiled(t, "rate 4000\nstring a 1/4 7/8 1/2\npipe b 1/4 1/2 open\nbow d 1/4 1/4 3\nplay b 3 1/2 90\nwait 2\nplay d 0 -1/4 90\nplay a 7 1 2\nat 9\nplay d 5 1 20\n")
	p, _ := toldPlay(newPlayer(s, 4), 6)
	p.Voices = []impl.Voice{p.Voices[2], p.Voices[0], p.Voices[1], p.Voices[3]}
	return p
}

// trioWith has one change to the trio.
func trioWith(t *testing.T, change func(p *impl.Player)) impl.Player {
	t.Helper()
	p := copiedPlayer(trio(t))
	change(&p)
	return p
}
