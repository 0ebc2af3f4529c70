package tests

import (
	"math"
	"slices"
	"strings"
	"testing"

	"loop.example/g01173/impl"
)

func TestP18ValidStages(t *testing.T) {
	for _, s := range invalidStages(t) {
		want(t, "ValidStage", impl.ValidStage(s), false)
	}
	for voices := int64(-1); voices <= 14; voices++ {
		for blocks := int64(-1); blocks <= 14; blocks++ {
			for workers := int64(-1); workers <= 14; workers++ {
				s := exampleStage(t)
				s.Voices, s.Blocks, s.Workers = voices, blocks, workers
				isValid := voices >= 1 && voices <= 6 && blocks >= 1 && blocks <= 12 && workers >= 1 && workers <= 3
				want(t, "ValidStage", impl.ValidStage(s), isValid)
			}
		}
	}
	for _, score := range validScores() {
		want(t, "ValidStage", impl.ValidStage(impl.Stage{Score: score, Voices: 1, Blocks: 1, Workers: 1}), true)
	}
}

func TestP20TheSoundOfAStage(t *testing.T) {
	random := newRandom()
	stages := []impl.Stage{exampleStage(t), bandStage(t, 12, 3), bandStage(t, 1, 1), loudStage(t, 12, 2)}
	for range 30 {
		stages = append(stages, anyStage(t, random))
	}
	for _, s := range stages {
		samples, code := impl.SoundOf(s)
		want(t, "SoundOf", code, impl.OK)
		_, expected := toldPlay(newPlayer(s.Score, s.Voices), 16*s.Blocks)
		wantSamples(t, "SoundOf", samples, expected)
		_, made, _ := impl.PlaySamples(newPlayer(s.Score, s.Voices), 16*s.Blocks)
		wantSamples(t, "SoundOf", samples, made)
	}
	for _, s := range invalidStages(t) {
		samples, code := impl.SoundOf(s)
		want(t, "SoundOf", [2]int64{int64(len(samples)), code}, [2]int64{0, impl.ErrInvalid})
	}
}

func TestP19ChecksOfBlocks(t *testing.T) {
	one := impl.Block{1}
	for _, c := range []struct {
		index    int64
		state    string
		b        impl.Block
		expected uint32
	}{
		{0, "", impl.Block{}, 0xf57262df},
		{5, "player 0 0 0\nfree\n", one, 0x7396cab5},
		{-1, "", impl.Block{nan, minusZero}, 0xf9bf90ce},
		{math.MaxUint32, "", impl.Block{otherNaN, minusZero}, 0xf9bf90ce},
		{1<<32 + 3, "\xff\x00", filled(leastSample), 0x8511b83b},
	} {
		want(t, "CheckOf", impl.CheckOf(c.index, c.state, c.b), c.expected)
		want(t, "CheckOf, as it is told", toldCheck(c.index, c.state, c.b), c.expected)
	}
	random := newRandom()
	blocks := []impl.Block{{}, filled(nan), filled(otherNaN), filled(minusZero), filled(infinite), anyBlock(random), loudBlock(random)}
	states := []string{"", "\n", "0", "player 0 0 0\nfree\n", "\x00", "\xff\xfe", "é", strings.Repeat("free\n", 1000)}
	for _, index := range []int64{0, 1, 11, -1, -12, 1 << 31, 1<<31 - 1, 1<<32 - 1, 1 << 32, 1<<32 + 1, -1 << 32, -1<<32 - 1, math.MaxInt64, math.MinInt64} {
		for _, state := range states {
			for _, b := range blocks {
				want(t, "CheckOf", impl.CheckOf(index, state, b), toldCheck(index, state, b))
			}
		}
	}
}

func TestP19ChecksTellWhatIsSpoilt(t *testing.T) {
	random := newRandom()
	for range 200 {
		b := loudBlock(random)
		check := impl.CheckOf(3, "player", b)
		for i := range b {
			for bit := range 32 {
				other := b
				other[i] = math.Float32frombits(math.Float32bits(b[i]) ^ 1<<bit)
				if impl.CheckOf(3, "player", other) == check {
					t.Errorf("the bit %d of the sample %d: the check is the same", bit, i)
				}
			}
		}
	}
	b := filled(0)
	b[3] = nan
	other := b
	other[3] = otherNaN
	want(t, "another NaN", impl.CheckOf(0, "", other), impl.CheckOf(0, "", b))
	other[4] = minusZero
	want(t, "-0", impl.CheckOf(0, "", other) == impl.CheckOf(0, "", b), false)
	checks := []uint32{impl.CheckOf(0, "", impl.Block{}), impl.CheckOf(1, "", impl.Block{}), impl.CheckOf(0, "a", impl.Block{}), impl.CheckOf(0, "aa", impl.Block{}), impl.CheckOf(0, "ab", impl.Block{}), impl.CheckOf(0, "ba", impl.Block{}), impl.CheckOf(0, "", impl.Block{1}), impl.CheckOf(0, "", impl.Block{0, 1})}
	slices.Sort(checks)
	want(t, "checks that differ", len(slices.Compact(checks)), len(checks))
}

func TestP18TheBeginning(t *testing.T) {
	for _, s := range []impl.Stage{exampleStage(t), bandStage(t, 12, 1), bandStage(t, 1, 2), bandStage(t, 5, 3)} {
		for _, list := range [][]impl.Deed{nil, {}} {
			hall, done, code := impl.HallAfter(s, list)
			want(t, "HallAfter", [2]int64{done, code}, [2]int64{0, impl.OK})
			first := impl.PlayerText(newPlayer(s.Score, s.Voices))
			wantHall(t, "at the beginning", hall, impl.Hall{State: first, Kept: first, Benches: make([]impl.Bench, s.Workers)})
			want(t, "benches", int64(len(hall.Benches)), s.Workers)
			wantAfter(t, s, list)
		}
	}
}

func TestP18RefusedAsAWhole(t *testing.T) {
	good := deeds(round)
	for _, s := range invalidStages(t) {
		for _, list := range [][]impl.Deed{nil, {}, good, {{}}, make([]impl.Deed, 151), slices.Repeat(good, 100)} {
			wantNoneAfter(t, s, list, impl.ErrInvalid)
		}
	}
	s := bandStage(t, 2, 2)
	for _, d := range invalidDeeds() {
		for _, list := range [][]impl.Deed{{d}, append(slices.Clone(good), d), append([]impl.Deed{d}, good...), append(deeds("work 0, work 9, deliver 3"), d), append(slices.Repeat(good, 100), d)} {
			wantNoneAfter(t, s, list, impl.ErrInvalid)
		}
	}
	for _, one := range []string{"sync", "give 0", "work 2", "quit 999"} {
		list := slices.Repeat(deeds(one), 150)
		_, _, code := impl.HallAfter(s, list)
		want(t, "150 deeds", code, impl.OK)
		wantNoneAfter(t, s, append(list, list[0]), impl.ErrRange)
		wantNoneAfter(t, s, slices.Repeat(list, 100), impl.ErrRange)
	}
}

func TestP18MostDeeds(t *testing.T) {
	s := bandStage(t, 12, 3)
	wantAfter(t, s, slices.Repeat(deeds("sync"), 150))
	wantAfter(t, s, append(deeds(rounds(12)), slices.Repeat(deeds("give 1, crash"), 51)...))
	hall, done, code := impl.HallAfter(s, append(slices.Repeat(deeds("work 0"), 102), deeds(rounds(12))...))
	want(t, "HallAfter", [2]int64{done, code}, [2]int64{48, impl.OK})
	want(t, "blocks", len(hall.Done), 12)
}
