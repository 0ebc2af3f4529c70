package tests

import (
	"math"
	"testing"

	"loop.example/g01173/impl"
)

func wantValidVoice(t *testing.T, name string, s impl.Score, v impl.Voice, expected bool) {
	t.Helper()
	if impl.ValidVoice(s, v) != expected {
		t.Errorf("%s: ValidVoice %+v: want %v", name, v, expected)
	}
}

func TestP16FreeVoices(t *testing.T) {
	wantVoice(t, "FreeVoice", impl.FreeVoice(), impl.Voice{Note: -1})
	s := bandScore(t)
	wantValidVoice(t, "a free one", s, impl.FreeVoice(), true)
	wantValidVoice(t, "of a score without notes", firstScore(nil), impl.FreeVoice(), true)
	for _, x := range invalidScores() {
		wantValidVoice(t, "of a score that is not valid", x, impl.FreeVoice(), false)
	}
	empty := impl.Voice{Note: -1, String: impl.String{Loop: impl.Ring{Samples: []float32{}}}, Pipe: impl.Pipe{Right: []impl.Ring{}, Left: []impl.Ring{}, Scatter: []float32{}}}
	empty.Bow.Neck.Samples, empty.Bow.Bridge.Samples = []float32{}, []float32{}
	wantValidVoice(t, "with empty lists", s, empty, true)
	for i, change := range changesOfNothing() {
		v := impl.FreeVoice()
		change(&v)
		if impl.ValidVoice(s, v) {
			t.Errorf("free, with change %d: ValidVoice %+v", i, v)
		}
	}
}

// changesOfNothing are those of what is the same in all voices that are free, and
// in the parts that others do not use.
func changesOfNothing() []func(v *impl.Voice) {
	changes := []func(v *impl.Voice){
		func(v *impl.Voice) { v.Instrument = 1 }, func(v *impl.Voice) { v.Instrument = -1 }, func(v *impl.Voice) { v.Born = 1 }, func(v *impl.Voice) { v.Born = -1 },
		func(v *impl.Voice) { v.Gone = true },
		func(v *impl.Voice) { v.Drive = minusZero }, func(v *impl.Voice) { v.Drive = leastSample }, func(v *impl.Voice) { v.Drive = nan }, func(v *impl.Voice) { v.Drive = -infinite },
	}
	changes = append(changes, changesOfNoString()...)
	changes = append(changes, changesOfNoPipe()...)
	return append(changes, changesOfNoBow()...)
}

func changesOfNoString() []func(v *impl.Voice) {
	list := []func(v *impl.Voice){func(v *impl.Voice) { v.String = newString(9, 0.5, 1) }, func(v *impl.Voice) { v.String.Loss = 1 }, func(v *impl.Voice) { v.String.Loss = minusZero }, func(v *impl.Voice) { v.String.Loss = nan }}
	list = append(list, changesOfNoRing(func(v *impl.Voice) *impl.Ring { return &v.String.Loop })...)
	list = append(list, changesOfNoFilter(func(v *impl.Voice) *impl.Filter { return &v.String.Tune })...)
	return append(list, changesOfNoFilter(func(v *impl.Voice) *impl.Filter { return &v.String.Damp })...)
}

func changesOfNoPipe() []func(v *impl.Voice) {
	list := []func(v *impl.Voice){
		func(v *impl.Voice) { v.Pipe = newPipe([]int64{3}, nil, false, 0.5, 1) }, func(v *impl.Voice) { v.Pipe.Open = true },
		func(v *impl.Voice) { v.Pipe.Right = []impl.Ring{{}} }, func(v *impl.Voice) { v.Pipe.Left = []impl.Ring{{}} },
		func(v *impl.Voice) { v.Pipe.Scatter = []float32{0} },
	}
	for _, a := range []float32{1, minusZero, nan} {
		list = append(list, func(v *impl.Voice) { v.Pipe.Loss = a }, func(v *impl.Voice) { v.Pipe.Rest = a }, func(v *impl.Voice) { v.Pipe.Slope = a })
	}
	return append(list, changesOfNoFilter(func(v *impl.Voice) *impl.Filter { return &v.Pipe.End })...)
}

func changesOfNoBow() []func(v *impl.Voice) {
	list := []func(v *impl.Voice){func(v *impl.Voice) { v.Bow = newBow(9, 0.5, 0.1, 1, 1) }}
	for _, a := range []float32{1, minusZero, nan} {
		list = append(list, func(v *impl.Voice) { v.Bow.Slope = a }, func(v *impl.Voice) { v.Bow.Loss = a })
	}
	list = append(list, changesOfNoRing(func(v *impl.Voice) *impl.Ring { return &v.Bow.Neck })...)
	list = append(list, changesOfNoRing(func(v *impl.Voice) *impl.Ring { return &v.Bow.Bridge })...)
	return append(list, changesOfNoFilter(func(v *impl.Voice) *impl.Filter { return &v.Bow.Damp })...)
}

func changesOfNoRing(ring func(v *impl.Voice) *impl.Ring) []func(v *impl.Voice) {
	return []func(v *impl.Voice){
		func(v *impl.Voice) { ring(v).Samples = []float32{0} }, func(v *impl.Voice) { ring(v).At = 1 }, func(v *impl.Voice) { ring(v).At = -1 },
		func(v *impl.Voice) { *ring(v) = numbered(3, 1) },
	}
}

func changesOfNoFilter(filter func(v *impl.Voice) *impl.Filter) []func(v *impl.Voice) {
	list := []func(v *impl.Voice){func(v *impl.Voice) { filter(v).Kind = impl.FkOnePole }, func(v *impl.Voice) { filter(v).Kind = -1 }}
	for _, a := range []float32{1, minusZero, nan} {
		for i := range 3 {
			list = append(list, func(v *impl.Voice) { filter(v).C[i] = a })
		}
		for i := range 2 {
			list = append(list, func(v *impl.Voice) { filter(v).S[i] = a })
		}
	}
	return list
}

func TestP16VoicesOfNotes(t *testing.T) {
	p := trio(t)
	for i, v := range p.Voices {
		wantValidVoice(t, "as it is", p.Score, v, true)
		for _, x := range invalidScores() {
			wantValidVoice(t, "of a score that is not valid", x, v, false)
		}
		wantValidVoice(t, "of a score without notes", firstScore(nil), v, v.Note == -1)
		for j, w := range p.Voices {
			v := v
			v.Note = w.Note
			wantValidVoice(t, "with another note", p.Score, v, i == j)
		}
	}
	with := func(expected bool, change func(v *impl.Voice)) {
		t.Helper()
		for i := range p.Voices[:3] {
			v := p.Voices[i]
			change(&v)
			wantValidVoice(t, "with a change", p.Score, v, expected)
		}
	}
	for _, n := range []int64{-1, -2, 3, 4, 64, 1<<32 + 1, math.MaxInt64, math.MinInt64} {
		with(false, func(v *impl.Voice) { v.Note = n })
	}
	for _, n := range []int64{1, -1, 2, -2, 1 << 32, math.MaxInt64, math.MinInt64} {
		with(false, func(v *impl.Voice) { v.Instrument += n })
		with(false, func(v *impl.Voice) { v.Born += n })
	}
	for _, a := range finiteSamples {
		with(true, func(v *impl.Voice) { v.Drive = a })
	}
	for _, a := range noForces {
		with(false, func(v *impl.Voice) { v.Drive = a })
	}
	with(true, func(v *impl.Voice) { v.Gone = !v.Gone })
}

func TestP16BodiesOfVoices(t *testing.T) {
	p := trio(t)
	body := func(i int, expected bool, change func(v *impl.Voice)) {
		t.Helper()
		v := copiedPlayer(p).Voices[i]
		change(&v)
		wantValidVoice(t, "with another body", p.Score, v, expected)
	}
	for _, x := range validStrings() {
		body(0, true, func(v *impl.Voice) { v.String = x })
		body(1, false, func(v *impl.Voice) { v.String = x })
		body(2, false, func(v *impl.Voice) { v.String = x })
	}
	for _, x := range validPipes() {
		body(0, false, func(v *impl.Voice) { v.Pipe = x })
		body(1, true, func(v *impl.Voice) { v.Pipe = x })
		body(2, false, func(v *impl.Voice) { v.Pipe = x })
	}
	for _, x := range bows().valid() {
		body(0, false, func(v *impl.Voice) { v.Bow = x })
		body(1, false, func(v *impl.Voice) { v.Bow = x })
		body(2, true, func(v *impl.Voice) { v.Bow = x })
	}
	for _, x := range invalidStrings() {
		body(0, false, func(v *impl.Voice) { v.String = x })
	}
	for _, x := range invalidPipes() {
		body(1, false, func(v *impl.Voice) { v.Pipe = x })
	}
	for _, x := range bows().invalid() {
		body(2, false, func(v *impl.Voice) { v.Bow = x })
	}
	for i, lists := range [][][]func(v *impl.Voice){{changesOfNoPipe(), changesOfNoBow()}, {changesOfNoString(), changesOfNoBow()}, {changesOfNoString(), changesOfNoPipe()}} {
		for _, changes := range lists {
			for _, change := range changes {
				body(i, false, change)
			}
		}
		body(i, false, func(v *impl.Voice) { v.String, v.Pipe, v.Bow = impl.String{}, impl.Pipe{}, impl.Bow{} })
		// The body of another kind than that of the instrument.
		other := p.Voices[(i+1)%3]
		body(i, false, func(v *impl.Voice) { v.String, v.Pipe, v.Bow = other.String, other.Pipe, other.Bow })
	}
	body(0, true, func(v *impl.Voice) {
		v.Pipe.Right, v.Pipe.Scatter, v.Bow.Neck.Samples = []impl.Ring{}, []float32{}, []float32{}
	})
}

func wantVoiceFor(t *testing.T, s impl.Score, e impl.Event, expected impl.Voice) {
	t.Helper()
	v, code := impl.VoiceFor(s, e)
	want(t, "VoiceFor", code, impl.OK)
	wantVoice(t, "VoiceFor", v, expected)
	want(t, "VoiceFor, ValidVoice", impl.ValidVoice(s, v), true)
}

func wantNoVoice(t *testing.T, s impl.Score, e impl.Event, expected int64) {
	t.Helper()
	v, code := impl.VoiceFor(s, e)
	if code != expected {
		t.Errorf("VoiceFor %+v: got %d, want %d", e, code, expected)
	}
	wantVoice(t, "VoiceFor, with an error", v, impl.Voice{})
}

func TestP16VoicesForStarts(t *testing.T) {
	list := []impl.Instrument{{Name: "a", Kind: impl.IkString, A: 0.25, B: 0.75, C: 0.125}, {Name: "b", Kind: impl.IkPipe, A: 0.5, B: 0.75, C: 1}, {Name: "c", Kind: impl.IkPipe, A: 0.25, B: 1, C: minusZero}, {Name: "d", Kind: impl.IkBow, A: 0.375, B: 0.625, C: -3}}
	s := firstScore(list, start(7, 0, 0, 0, -2), start(7, 1, 1, 0, 0.5), start(7, 2, 2, 12, minusZero), start(7, 3, 3, 0, -0.5), stop(8, 0), stop(8, 1), stop(8, 2), stop(8, 3))
	// A period of 27.5 samples at the key 0, and of 13.75 at the key 12.
	s.Rate = 12100
	wantVoiceFor(t, s, s.Events[0], impl.Voice{Note: 0, Instrument: 0, Born: 7, String: plucked(newString(27.5, 0.25, 0.75), 0.125, -2)})
	wantVoiceFor(t, s, s.Events[1], impl.Voice{Note: 1, Instrument: 1, Born: 7, Drive: 0.5, Pipe: newPipe([]int64{13}, nil, true, 0.5, 0.75)})
	wantVoiceFor(t, s, s.Events[2], impl.Voice{Note: 2, Instrument: 2, Born: 7, Drive: minusZero, Pipe: newPipe([]int64{3}, nil, false, 0.25, 1)})
	wantVoiceFor(t, s, s.Events[3], impl.Voice{Note: 3, Instrument: 3, Born: 7, Drive: -0.5, Bow: newBow(27, 0.125, 0.375, 0.625, -3)})
	s.Instruments[2].C, s.Tuning = 0, equalTuning(110, 12)
	wantVoiceFor(t, s, s.Events[2], impl.Voice{Note: 2, Instrument: 2, Born: 7, Drive: minusZero, Pipe: newPipe([]int64{13}, nil, false, 0.25, 1)})
}

// oneNote has an instrument, and a note of which so many samples are a period.
func oneNote(x impl.Instrument, period float32) impl.Score {
	x.Name = "a"
	s := firstScore([]impl.Instrument{x}, start(0, 0, 0, 0, 1), stop(0, 0))
	s.Rate, s.Tuning = period, equalTuning(1, 12)
	return s
}

func TestP16PeriodsOfVoices(t *testing.T) {
	for _, c := range []struct {
		x               impl.Instrument
		least, most     float32
		atLeast, atMost int64
	}{
		{impl.Instrument{Kind: impl.IkString, A: 0.5}, 3, 1024, 2, 1023},
		{impl.Instrument{Kind: impl.IkPipe, C: 1}, 2, below(2050), 1, 1024},
		{impl.Instrument{Kind: impl.IkPipe}, 4, below(4100), 1, 1024},
		{impl.Instrument{Kind: impl.IkBow}, 2, below(1025), 2, 1024},
	} {
		length := func(period float32) int64 {
			s := oneNote(c.x, period)
			v, code := impl.VoiceFor(s, s.Events[0])
			want(t, "VoiceFor", code, impl.OK)
			want(t, "ValidVoice", impl.ValidVoice(s, v), true)
			count := len(v.String.Loop.Samples) + len(v.Bow.Neck.Samples) + len(v.Bow.Bridge.Samples)
			if c.x.Kind == impl.IkPipe {
				count = len(v.Pipe.Right[0].Samples)
			}
			return int64(count)
		}
		want(t, "the least period", length(c.least), c.atLeast)
		want(t, "the greatest period", length(c.most), c.atMost)
		for _, period := range []float32{1, below(c.least), above(c.most), c.most + 1, 10000, 1000000} {
			s := oneNote(c.x, period)
			want(t, "valid", impl.ValidScore(s), true)
			wantNoVoice(t, s, s.Events[0], impl.ErrRange)
		}
	}
}

func TestP16KeysOfVoices(t *testing.T) {
	for _, x := range mixedInstruments() {
		for _, c := range []struct {
			base float32
			key  int64
		}{{1, -31}, {1, -100}, {20000, 31}, {20000, 100}} {
			// Each key is four octaves above the one below it; those have no frequency.
			s := oneNote(x, 1000)
			s.Tuning = tuning(c.base, 4800, 0)
			s.Events[0].Key = c.key
			wantNoVoice(t, s, s.Events[0], impl.ErrRange)
		}
		// One is infinite, and so is the period of another one.
		s := oneNote(x, 1000000)
		s.Tuning, s.Events[0].Key = tuning(20000, 4800, 0), 30
		wantNoVoice(t, s, s.Events[0], impl.ErrRange)
		s.Tuning, s.Events[0].Key = tuning(1, 4800, 0), -30
		wantNoVoice(t, s, s.Events[0], impl.ErrRange)
	}
}

func TestP16VoicesForOtherEvents(t *testing.T) {
	s := scoreWith(func(s *impl.Score) { s.Events[3].Force, s.Events[6].Key, s.Events[8].Key = 0, 1, -1 })
	for _, e := range s.Events {
		v, code := impl.VoiceFor(s, e)
		want(t, "VoiceFor", code, pick[int64](e.Kind == impl.EvStart, impl.OK, impl.ErrInvalid))
		want(t, "VoiceFor, its note", v.Note, pick(e.Kind == impl.EvStart, e.Note, 0))
		for _, change := range []func(e *impl.Event){
			func(e *impl.Event) { e.At++ }, func(e *impl.Event) { e.At-- }, func(e *impl.Event) { e.Kind = 3 - e.Kind }, func(e *impl.Event) { e.Kind = 0 },
			func(e *impl.Event) { e.Note++ }, func(e *impl.Event) { e.Note-- }, func(e *impl.Event) { e.Instrument++ }, func(e *impl.Event) { e.Instrument-- }, func(e *impl.Event) { e.Instrument = 99 },
			func(e *impl.Event) { e.Key++ }, func(e *impl.Event) { e.Key-- }, func(e *impl.Event) { e.Force = above(e.Force) }, func(e *impl.Event) { e.Force = nan }, func(e *impl.Event) { e.Force = infinite },
			func(e *impl.Event) { e.Force = -e.Force },
		} {
			e := e
			change(&e)
			wantNoVoice(t, s, e, impl.ErrInvalid)
		}
	}
	wantNoVoice(t, s, impl.Event{}, impl.ErrInvalid)
	wantNoVoice(t, s, start(50, 5, 0, 0, 1), impl.ErrInvalid)
	wantNoVoice(t, firstScore(nil), s.Events[0], impl.ErrInvalid)
	for _, x := range invalidScores() {
		wantNoVoice(t, x, s.Events[0], impl.ErrInvalid)
		for _, e := range x.Events {
			wantNoVoice(t, x, e, impl.ErrInvalid)
		}
	}
	// Neither is there a start, nor has the key a period.
	wantNoVoice(t, oneNote(oneString()[0], 1), start(0, 0, 0, 100, 1), impl.ErrInvalid)
}

func TestP16VoicesAreThoseOfTheDocument(t *testing.T) {
	random := newRandom()
	have, none := 0, 0
	for range 400 {
		s := randomBand(t, random)
		for _, e := range s.Events {
			if e.Kind != impl.EvStart {
				continue
			}
			if v, canSound := toldVoice(s, e); canSound {
				wantVoiceFor(t, s, e, v)
				have++
			} else {
				wantNoVoice(t, s, e, impl.ErrRange)
				none++
			}
		}
	}
	if have < 500 || none < 100 {
		t.Errorf("only %d with a voice, and %d with none", have, none)
	}
}
