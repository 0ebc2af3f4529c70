package tests

import (
	"math/rand/v2"
	"testing"

	"loop.example/g01173/impl"
)

// part makes some steps with one function or another.
func part(t *testing.T, p impl.Player, count int64) (impl.Player, []float32) {
	t.Helper()
	var code int64
	var made []float32
	switch count {
	case 1:
		var a float32
		p, a, code = impl.StepPlayer(p)
		made = []float32{a}
	case 16:
		var b impl.Block
		p, b, code = impl.BlockOfPlayer(p)
		made = b[:]
	default:
		p, made, code = impl.PlaySamples(p, count)
	}
	want(t, "a part", code, impl.OK)
	return p, made
}

// readAgain is the player that is read from the text of one.
func readAgain(t *testing.T, p impl.Player) impl.Player {
	t.Helper()
	q, code := impl.ReadPlayer(p.Score, impl.PlayerText(p))
	want(t, "ReadPlayer", code, impl.OK)
	wantPlayer(t, "ReadPlayer", q, p)
	return q
}

// inParts plays in parts of any cut; some of them are empty.
func inParts(t *testing.T, r *rand.Rand, p impl.Player, count int64, reads bool) (impl.Player, []float32) {
	t.Helper()
	var all []float32
	for count > 0 {
		n := min(count, []int64{0, 1, 1, 2, 3, 16, 16, 17, r.Int64N(200)}[r.IntN(9)])
		var made []float32
		p, made = part(t, p, n)
		all = append(all, made...)
		count -= n
		if reads {
			p = readAgain(t, p)
		}
	}
	return p, all
}

func TestP16PlayersPlayInPartsWhatTheyPlayAtOnce(t *testing.T) {
	random := newRandom()
	players := []impl.Player{trio(t)}
	for n := int64(1); n <= impl.MaxVoices; n++ {
		players = append(players, newPlayer(bandScore(t), n))
	}
	for range 40 {
		players = append(players, anyPlayer(t, random), newPlayer(randomBand(t, random), 1+random.Int64N(impl.MaxVoices)))
	}
	for _, p := range players {
		count := min(2*impl.MaxTime-p.Now, 400)
		atOnce, samples := playedOn(t, p, count)
		for k := range 6 {
			q, made := inParts(t, random, p, count, k%2 == 0)
			wantSamples(t, "in parts", made, samples)
			wantPlayer(t, "in parts", q, atOnce)
		}
	}
}

func TestP16PlayersPlayStepByStep(t *testing.T) {
	random := newRandom()
	for n := int64(1); n <= impl.MaxVoices; n++ {
		for _, s := range []impl.Score{bandScore(t), randomBand(t, random), randomBand(t, random)} {
			first := newPlayer(s, n)
			_, samples := playedOn(t, first, 260)
			read := first
			for p := first; p.Now < 260; {
				var a, b float32
				now := p.Now
				p, a, _ = impl.StepPlayer(p)
				read, b, _ = impl.StepPlayer(readAgain(t, read))
				wantSample(t, "step by step", a, samples[now])
				wantSample(t, "read before each step", b, samples[now])
				want(t, "Now", p.Now, now+1)
				wantValidPlayer(t, "behind a step", p, true)
				wantPlayer(t, "read before each step", read, p)
			}
		}
	}
}

func TestP16CutsAtEachEvent(t *testing.T) {
	s := bandScore(t)
	p := newPlayer(s, 3)
	_, samples := playedOn(t, p, 300)
	for _, e := range s.Events {
		for _, cut := range []int64{e.At, e.At + 1, max(e.At-1, 0)} {
			q, first := playedOn(t, p, cut)
			_, second := playedOn(t, readAgain(t, q), 300-cut)
			wantSamples(t, "in two parts", append(first, second...), samples)
		}
	}
}

func TestP16NoSampleIsGreaterThanOne(t *testing.T) {
	random := newRandom()
	loud := 0
	for range 200 {
		p := anyPlayer(t, random)
		for i := range p.Score.Events {
			p.Score.Events[i].Force *= 4
		}
		if !impl.ValidPlayer(p) {
			continue // as some force is infinite
		}
		_, made := playedOn(t, p, 100)
		for _, a := range made {
			if a > 1 || a < -1 {
				t.Errorf("a sample is %v", a)
			}
			loud += pick(a == 1 || a == -1, 1, 0)
		}
	}
	if loud < 1000 {
		t.Errorf("only %d samples had to be clamped", loud)
	}
}

func TestP16PlayersComeToAnEnd(t *testing.T) {
	for _, text := range []string{
		longStrings, "rate 4000\nstring a 1/2 127/128 1/4\n", "rate 999999\ntuning 20000 12\nstring a 0 1 0\n", "rate 4000\npipe a 0 1 open\n", "rate 4000\npipe a 1/2 255/256 closed\n",
	} {
		s := compiled(t, text+"play a 0 1 400\nwait 100\nplay a 12 -1/2 0\nplay a -7 3/4 30\nwait 500\nplay a 3 1 50\n")
		for n := int64(1); n <= impl.MaxVoices; n++ {
			p := newPlayer(s, n)
			for range 100 {
				if ended, _ := impl.HasEnded(p); !ended {
					p, _ = playedOn(t, p, 1000)
				}
			}
			wantEnded(t, text, p, true)
			q, made := playedOn(t, p, 100)
			wantSamples(t, "behind the end", made, make([]float32, 100))
			wantEnded(t, "behind the end", q, true)
		}
	}
}

func TestP16PlayersEndWithTheirLastVoice(t *testing.T) {
	p := newPlayer(compiled(t, "rate 4000\nstring a 0 0 0\nplay a 0 1 3\nat 40\nplay a 0 0 0\n"), 1)
	// The first note is gone at 3; what is in its ring has left it then, behind 8
	// steps, and its filter behind about 28 more.
	ended := func(now int64) (bool, string) {
		t.Helper()
		q, _ := playedOn(t, p, now)
		ended, code := impl.HasEnded(q)
		want(t, "HasEnded", code, impl.OK)
		return ended, notesIn(q)
	}
	for now := range int64(60) {
		isEnded, notes := ended(now)
		want(t, "HasEnded", isEnded, now > 40)
		if now > 3 && now < 10 {
			want(t, "the voice", notes, "0!")
		}
		if now > 37 {
			want(t, "the voice", notes, "-")
		}
	}
}
