package tests

import (
	"bytes"
	"math"
	"slices"
	"strings"
	"testing"

	"loop.example/g01173/impl"
)

// wantFinished does the plan behind some deeds.
func wantFinished(t *testing.T, s impl.Stage, list []impl.Deed) {
	t.Helper()
	plan, code := impl.FinishDeeds(s, list)
	want(t, textOfDeeds(list)+": FinishDeeds", code, impl.OK)
	all := slices.Concat(list, plan)
	_, before, _ := impl.HallAfter(s, list)
	hall, done, code := impl.HallAfter(s, all)
	want(t, "HallAfter", code, impl.OK)
	want(t, textOfDeeds(all)+": done", done, before+int64(len(plan)))
	want(t, "Synced", hall.Synced, s.Blocks)
	want(t, "Kept", hall.Kept, hall.State)
	want(t, "the wire", len(hall.Wire), 0)
	want(t, "the first bench", hall.Benches[0], impl.Bench{})
	sound, _ := impl.SoundOf(s)
	wantSamples(t, "the blocks", samplesIn(hall.Done), sound)
	samples, code := impl.SamplesAfter(s, all)
	want(t, "SamplesAfter", code, impl.OK)
	wantSamples(t, "SamplesAfter", samples, sound)
	file, code := impl.FileAfter(s, all, impl.SfBits)
	want(t, "FileAfter", code, impl.OK)
	wantRead(t, file, impl.SfBits, int64(math.Floor(float64(s.Score.Rate))), sound)
	file, code = impl.FileAfter(s, all, impl.SfShort)
	want(t, "FileAfter", code, impl.OK)
	wantRead(t, file, impl.SfShort, int64(math.Floor(float64(s.Score.Rate))), keptIn(impl.SfShort, sound))
	if len(all)+2 <= 150 {
		again, code := impl.FinishDeeds(s, all)
		want(t, "FinishDeeds, again", code, impl.OK)
		want(t, "FinishDeeds, again", textOfDeeds(again), "quit 0, sync")
	}
}

func TestP20PlansComeToTheirEnd(t *testing.T) {
	random := newRandom()
	for range 200 {
		s := anyStage(t, random)
		wantFinished(t, s, anyDeeds(random, s, random.IntN(92)))
		wantFinished(t, s, busyDeeds(random, s)[:random.IntN(92)])
	}
	for _, text := range []string{
		"", "crash", "sync", gives(8), "give 0, deliver 0", "give 0, deliver 0, " + gives(8), "give 0, deliver 0, work 0", "give 0, deliver 0, work 0, spoil 0 5", rounds(1), rounds(1) + ", sync, crash", rounds(3), rounds(3) + ", " + rounds(1), rounds(2) + ", crash",
		"give 0, give 1, give 2, deliver 0, deliver 0, deliver 0, " + gives(8), "give 1, deliver 0, give 1, work 1, deliver 0, give 2, deliver 1", rounds(2) + ", give 0, deliver 0, give 1, deliver 0, " + gives(8) + ", deliver 0",
	} {
		for workers := int64(1); workers <= 3; workers++ {
			s := bandStage(t, 3, workers)
			wantFinished(t, s, deeds(text))
			wantAfter(t, s, deeds(text))
		}
	}
}

func TestP20Plans(t *testing.T) {
	s := bandStage(t, 3, 3)
	for _, c := range []struct{ text, plan string }{
		{"", "quit 0, " + rounds(3) + ", sync"},
		{"work 0, sync, crash", "quit 0, " + rounds(3) + ", sync"},
		{"give 0, give 1, give 2", "drop 0, drop 0, drop 0, quit 0, " + rounds(3) + ", sync"},
		{gives(9), strings.Repeat("drop 0, ", 8) + "quit 0, " + rounds(3) + ", sync"},
		{"give 0, deliver 0", "quit 0, " + rounds(3) + ", sync"},
		{"give 1, deliver 0, give 2, deliver 0", "quit 0, " + rounds(3) + ", sync"},
		{rounds(1), "quit 0, " + rounds(2) + ", sync"},
		{rounds(2) + ", sync, give 0", "drop 0, quit 0, " + rounds(1) + ", sync"},
		{rounds(3), "quit 0, sync"}, {rounds(3) + ", sync", "quit 0, sync"},
		{rounds(2) + ", give 0, deliver 0, work 0, copy 0, copy 0", "drop 0, quit 0, sync"},
		{rounds(3) + ", crash", "quit 0, " + rounds(3) + ", sync"},
	} {
		plan, code := impl.FinishDeeds(s, deeds(c.text))
		want(t, c.text, code, impl.OK)
		want(t, c.text, textOfDeeds(plan), c.plan)
	}
}

func TestP20PlansOfTooManyDeeds(t *testing.T) {
	wantCount := func(s impl.Stage, list []impl.Deed, count int) {
		t.Helper()
		plan, code := impl.FinishDeeds(s, list)
		isMany := len(list)+count > 150
		want(t, "FinishDeeds", code, pick[int64](isMany, impl.ErrLimit, impl.OK))
		want(t, "FinishDeeds, its plan", len(plan), pick(isMany, 0, count))
		if !isMany {
			wantFinished(t, s, list)
		}
	}
	for blocks := int64(1); blocks <= 12; blocks += 11 {
		s := bandStage(t, blocks, 2)
		most := 4 * int(blocks)
		for _, n := range []int{0, 1, 88, 92, 99, 100, 101, 132, 136, 143, 144, 145, 147, 148, 149, 150} {
			// Deeds that are left out count, too.
			wantCount(s, slices.Repeat(deeds("crash"), n), 2+most)
			wantCount(s, slices.Repeat(deeds("work 5"), n), 2+most)
			if n >= 8 {
				wantCount(s, append(slices.Repeat(deeds("sync"), n-8), deeds(gives(8))...), 10+most)
			}
			if n >= 2 {
				wantCount(s, append(slices.Repeat(deeds("sync"), n-2), deeds("give 0, deliver 0")...), 2+most)
			}
			if n >= most {
				wantCount(s, append(slices.Repeat(deeds("crash"), n-most), deeds(rounds(int(blocks)))...), 2)
				wantCount(s, append(deeds(rounds(int(blocks))), slices.Repeat(deeds("drop 0"), n-most)...), 2)
			}
		}
		wantNoneAfter(t, s, slices.Repeat(deeds("crash"), 151), impl.ErrRange)
	}
}

func TestP20PiecesSharedOut(t *testing.T) {
	random := newRandom()
	for i := range 60 {
		s := anyStage(t, random)
		s.Workers = int64(i%3 + 1)
		// Each block is played by any worker, once or twice.
		var text []string
		for len(text) < int(s.Blocks) {
			w := random.Int64N(s.Workers)
			one := strings.ReplaceAll(round, "e 0", "e W")
			one = strings.ReplaceAll(one, "k 0", "k W")
			text = append(text, strings.ReplaceAll(one, "W", string(rune('0'+w))))
		}
		list := deeds(strings.Join(text, ", "))
		samples, code := impl.SamplesAfter(s, list)
		want(t, "SamplesAfter", code, impl.OK)
		sound, _ := impl.SoundOf(s)
		_, once := toldPlay(newPlayer(s.Score, s.Voices), 16*s.Blocks)
		wantSamples(t, "the piece", samples, sound)
		wantSamples(t, "the piece played at once", samples, once)
		file, code := impl.FileAfter(s, list, impl.SfBits)
		want(t, "FileAfter", code, impl.OK)
		wantRead(t, file, impl.SfBits, int64(math.Floor(float64(s.Score.Rate))), once)
	}
}

// wantRate holds the rate of the file against that of a score.
func wantRate(t *testing.T, rate float32, expected int64) {
	t.Helper()
	s := bandStage(t, 2, 1)
	s.Score.Rate = rate
	for _, text := range []string{"", rounds(1), rounds(2)} {
		samples, _ := impl.SamplesAfter(s, deeds(text))
		for kind := int64(1); kind <= 2; kind++ {
			file, code := impl.FileAfter(s, deeds(text), kind)
			want(t, "FileAfter", code, impl.OK)
			wantRead(t, file, kind, expected, keptIn(kind, samples))
			made, _ := impl.MakeSoundFile(kind, expected, samples)
			want(t, "FileAfter", bytes.Equal(file, made), true)
		}
	}
}

func TestP20RatesOfFiles(t *testing.T) {
	for rate, expected := range map[float32]int64{1: 1, above(1): 1, 1.5: 1, below(2): 1, 2: 2, 4000: 4000, below(4000): 3999, 4000.5: 4000, 44099.996: 44099, 999999.9: 999999, below(1000000): 999999, 1000000: 1000000} {
		wantRate(t, rate, expected)
	}
	// Scores with other rates are not valid.
	for _, rate := range noRates {
		s := bandStage(t, 2, 1)
		s.Score.Rate = rate
		wantNoneAfter(t, s, nil, impl.ErrInvalid)
		wantNoneAfter(t, s, make([]impl.Deed, 151), impl.ErrInvalid)
	}
}

func TestP20KindsOfFilesThatAreNone(t *testing.T) {
	s := bandStage(t, 2, 1)
	for _, kind := range []int64{0, 3, -1, 257, 1<<32 + 1, math.MaxInt64, math.MinInt64} {
		for _, list := range [][]impl.Deed{nil, deeds(rounds(1)), deeds(rounds(2) + ", work 9"), slices.Repeat(deeds("sync"), 150), slices.Repeat(deeds("sync"), 151)} {
			file, code := impl.FileAfter(s, list, kind)
			want(t, "FileAfter", [2]int64{int64(len(file)), code}, [2]int64{0, impl.ErrRange})
		}
		for _, list := range [][]impl.Deed{{{}}, append(slices.Repeat(deeds("sync"), 151), impl.Deed{Kind: 10})} {
			file, code := impl.FileAfter(s, list, kind)
			want(t, "FileAfter", [2]int64{int64(len(file)), code}, [2]int64{0, impl.ErrInvalid})
		}
		file, code := impl.FileAfter(impl.Stage{}, nil, kind)
		want(t, "FileAfter", [2]int64{int64(len(file)), code}, [2]int64{0, impl.ErrInvalid})
	}
}
