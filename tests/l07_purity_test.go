package tests

import (
	"math"
	"slices"
	"strings"
	"testing"

	"loop.example/g01173/impl"
)

func answersOfNumbers(a, c float32, n, m int64) []any {
	power, code := impl.TwoTo(a)
	list := []any{power, code}
	log, code := impl.LogTwo(a)
	list = append(list, log, code)
	cents, code := impl.CentsOf(n, m)
	list = append(list, cents, code)
	whole, part, code := impl.DelayParts(a)
	list = append(list, whole, part, code)
	glide, code := impl.GlideOf(a, c, n)
	list = append(list, glide, code)
	p, q, code := impl.BestRatio(a, n)
	list = append(list, p, q, code)
	x, code := impl.EqualTuning(a, n)
	list = append(list, x, code)
	x, code = impl.RatioTuning(a, [][2]int64{{1, 1}, {n, m}})
	return append(list, x, code)
}

func answersOfTunings(x, y impl.Tuning, a float32, key int64) []any {
	list := []any{impl.ValidTuning(x), impl.SameTuning(x, y), impl.TuningText(x)}
	cents, code := impl.KeyCents(x, key)
	list = append(list, cents, code)
	hertz, code := impl.KeyHertz(x, key)
	list = append(list, hertz, code)
	nearest, code := impl.NearestKey(x, a)
	list = append(list, nearest, code)
	period, code := impl.PeriodOfKey(x, key, a)
	list = append(list, period, code)
	turned, code := impl.TurnTuning(x, key)
	list = append(list, turned, code)
	read, code := impl.ReadTuning(impl.TuningText(x))
	return append(list, read, code)
}

func TestP1ReturnsTheSameForAllNumbersOfChapter7(t *testing.T) {
	counts := []int64{math.MinInt64, -1, 0, 1, 2, 3, 12, 31, 32, 1000, 1001, 4096, 4097, math.MaxInt64}
	kinds := append(awkward(), 2, 4.2, 440, 1000, 20000)
	for i, a := range kinds {
		for j, n := range counts {
			c, m := kinds[(i+5*j)%len(kinds)], counts[(i+j)%len(counts)]
			first := writtenDown(answersOfNumbers(a, c, n, m)...)
			want(t, "the second time", writtenDown(answersOfNumbers(a, c, n, m)...), first)
		}
	}
}

func TestP1ReturnsTheSameForAllTunings(t *testing.T) {
	all := append(validTunings(), invalidTunings()...)
	kinds := append(awkward(), 440, 44100, 100.5)
	keys := append(noKeys, -impl.MaxKey, -13, -12, -1, 0, 1, 7, 12, 31, impl.MaxKey)
	for i, x := range all {
		y := all[(i*7+1)%len(all)]
		before := writtenDown(x, y)
		for j := range 12 {
			a, key := kinds[(i+5*j)%len(kinds)], keys[(i+3*j)%len(keys)]
			first := writtenDown(answersOfTunings(x, y, a, key)...)
			want(t, "the second time", writtenDown(answersOfTunings(x, y, a, key)...), first)
		}
		want(t, "the arguments", writtenDown(x, y), before)
	}
}

func TestP1NearestKeysAreTheSameEachTime(t *testing.T) {
	// Many keys are equally near, and each run of a map has an order of its own.
	for _, hertz := range []float32{1e30, -1e30, 0, 440, 660} {
		for _, x := range []impl.Tuning{equalTuning(440, 12), thinTuning(), tuning(440, 1200, 0, leastSample)} {
			first := nearestOf(x, hertz)
			for range 50 {
				wantNearest(t, x, hertz, first)
			}
		}
	}
}

func TestP1TuningsShareNoMemory(t *testing.T) {
	for _, change := range []func(x impl.Tuning) impl.Tuning{
		func(x impl.Tuning) impl.Tuning { y, _ := impl.TurnTuning(x, 0); return y },
		func(x impl.Tuning) impl.Tuning { y, _ := impl.TurnTuning(x, int64(len(x.Degrees)-1)); return y },
		func(x impl.Tuning) impl.Tuning { y, _ := impl.ReadTuning(impl.TuningText(x)); return y },
		func(x impl.Tuning) impl.Tuning {
			answersOfTunings(x, x, 440, 1)
			return equalTuning(440, 5)
		},
		func(x impl.Tuning) impl.Tuning { y, _ := impl.RatioTuning(440, justRatios); return y },
	} {
		for count := 1; count <= 4; count++ {
			memory := []float32{-91, -92, 0, 100, 250, 700, 93, 94, 95}
			before := slices.Clone(memory)
			x := tuning(440, 1200, memory[2:2+count]...)
			x.Degrees = memory[2 : 2+count]
			first, second := change(x), change(x)
			want(t, "valid", impl.ValidTuning(first), true)
			wantSamples(t, "the memory", memory, before)
			kept := writtenDown(second)
			overwrite(first.Degrees)
			wantSamples(t, "the memory behind", memory, before)
			want(t, "the second one", writtenDown(second), kept)
			overwrite(memory)
			want(t, "the second one", writtenDown(second), kept)
		}
	}
}

func TestP1RatiosAreKept(t *testing.T) {
	memory := [][2]int64{{91, 2}, {92, 3}, {3, 2}, {1, 1}, {3, 2}, {5, 4}, {93, 4}, {94, 5}}
	before := slices.Clone(memory)
	x, code := impl.RatioTuning(440, memory[2:6])
	want(t, "RatioTuning", code, impl.OK)
	want(t, "the ratios", slices.Equal(memory, before), true)
	kept := writtenDown(x)
	clear(memory)
	want(t, "RatioTuning", writtenDown(x), kept)
}

func TestP1GlidesShareNoMemory(t *testing.T) {
	first, _ := impl.GlideOf(1, 8, 3)
	overwrite(first)
	second, code := impl.GlideOf(1, 8, 3)
	want(t, "GlideOf", code, impl.OK)
	wantSamples(t, "GlideOf", second, []float32{1, 2, 4})
}

func TestP1ReturnsForLongArgumentsOfChapter7(t *testing.T) {
	for _, fill := range []float32{0, 1, nan} {
		long := tuning(440, 1200, slices.Repeat([]float32{fill}, 1000000)...)
		long.Degrees[0] = 0
		want(t, "ValidTuning", impl.ValidTuning(long), false)
		other := tuning(440, 1200, slices.Clone(long.Degrees)...)
		want(t, "SameTuning", impl.SameTuning(long, other), true)
		other.Degrees[999999] = 7
		want(t, "SameTuning", impl.SameTuning(long, other), false)
		want(t, "TuningText", impl.TuningText(long), "")
		wantNoKey(t, long, 0, impl.ErrInvalid)
		wantNoNearest(t, long, 440, impl.ErrInvalid)
		wantNoTurn(t, long, 0, impl.ErrInvalid)
		wantNoPeriod(t, long, 0, 44100, impl.ErrInvalid)
	}
	wantNoRatios(t, 440, make([][2]int64, 500000), impl.ErrLimit)
	for _, text := range []string{
		strings.Repeat(" ", 1000000), strings.Repeat("0", 1000000), "tuning" + strings.Repeat(" ", 900000), "tuning " + strings.Repeat("\n", 900000), "\xff", "\x00", textOfTuning + strings.Repeat(" ", 900000), textOfTuning + strings.Repeat(" 00000000", 100000), textOfTuning + strings.Repeat(" 4495ffff", 100000), "tuning 43dc0000 " + strings.Repeat("4", 900000), strings.Repeat("tuning ", 140000),
	} {
		wantNoRead(t, tunings(), text)
	}
}

func TestP1NilAndEmptyListsAreEquivalentForTunings(t *testing.T) {
	none, empty := tuning(440, 1200), impl.Tuning{Base: 440, Octave: 1200, Degrees: []float32{}}
	want(t, "answers", writtenDown(answersOfTunings(none, empty, 440, 0)...), writtenDown(answersOfTunings(empty, none, 440, 0)...))
	for _, base := range []float32{440, nan} {
		wantNoRatios(t, base, nil, impl.ErrRange)
		wantNoRatios(t, base, [][2]int64{}, impl.ErrRange)
	}
}
