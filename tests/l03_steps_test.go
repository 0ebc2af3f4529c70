package tests

import (
	"math"
	"testing"

	"loop.example/g01173/impl"
)

// playedAlone makes steps as the document tells them.
func playedAlone(x impl.String, in []float32) (impl.String, []float32) {
	var made []float32
	for _, a := range in {
		var out float32
		x, out = stepOfString(x, a)
		made = append(made, out)
	}
	return x, made
}

func TestP6StepsAreThoseOfTheDocument(t *testing.T) {
	random := newRandom()
	noise := loudBlock(random)
	in := append(awkward(), noise[:]...)
	for _, x := range validStrings() {
		y := x
		for _, a := range in {
			expected, made := stepOfString(x, a)
			next, out, code := impl.StepString(x, a)
			want(t, "StepString", code, impl.OK)
			wantSample(t, "StepString", out, made)
			wantString(t, "StepString", next, expected)
			want(t, "ValidString", impl.ValidString(next), true)
		}
		behind, made := playedAlone(y, in)
		for i, a := range in {
			next, out, _ := impl.StepString(y, a)
			wantSample(t, "one after the other", out, made[i])
			y = next
		}
		wantString(t, "behind all", y, behind)
	}
}

func TestP6TheOldestSampleIsMade(t *testing.T) {
	x := newString(6, 0, 1) // which delays by one sample behind the ring
	for at := range int64(5) {
		r := numbered(5, at)
		y, samples, code := impl.PlayString(withRing(x, at, r.Samples...), 11)
		want(t, "PlayString", code, impl.OK)
		wantSamples(t, "PlayString", samples, []float32{1, 2, 3, 4, 5, 0, 1, 2, 3, 4, 5})
		want(t, "At", y.Loop.At, (at+11)%5)
	}
}

func TestP6WhatComesIntoTheRing(t *testing.T) {
	quiet := newString(5, 0, 0)
	for _, c := range []struct{ in, comes float32 }{
		{1, 1}, {nan, 0}, {otherNaN, 0}, {infinite, 0}, {-infinite, 0}, {leastSample, 0}, {-mostSub, 0}, {minusZero, 0}, {leastNormal, leastNormal}, {-leastNormal, -leastNormal}, {greatest, greatest},
	} {
		x, out, code := impl.StepString(quiet, c.in)
		want(t, "StepString", code, impl.OK)
		wantSample(t, "it makes", out, 0)
		wantSamples(t, "the ring", x.Loop.Samples, []float32{c.comes, 0, 0, 0})
	}
	loud := withRing(newString(5, 0, 1), 0, 1)
	loud.Tune = impl.Filter{Kind: impl.FkAllpass, C: [3]float32{1}}
	for _, c := range []struct{ sample, loss, in, comes float32 }{
		{greatest, 1, greatest, 0}, {greatest, 2, -greatest, 0}, {greatest, 1, -greatest, 0}, {leastNormal, 0.5, 0, 0}, {leastNormal, 0.5, leastNormal / 2, leastNormal},
		{nan, 1, 1, 0}, {infinite, 1, 1, 0}, {-infinite, 0, 0.5, 0}, {-1, 0, minusZero, 0}, {mostSub, 1, leastSample, leastNormal}, {3, 0.5, 0.25, 1.75},
	} {
		x := withRing(loud, 0, c.sample)
		x.Loss = c.loss
		y, out, code := impl.StepString(x, c.in)
		want(t, "StepString", code, impl.OK)
		wantSample(t, "it makes", out, c.sample)
		wantSamples(t, "the ring", y.Loop.Samples, []float32{c.comes})
	}
}

func TestP6StringsArePlayedInBlocksOfAnyCut(t *testing.T) {
	for _, x := range validStrings() {
		all, samples, code := impl.PlayString(x, 48)
		want(t, "PlayString", code, impl.OK)
		behind, made := playedAlone(x, make([]float32, 48))
		wantSamples(t, "PlayString", samples, made)
		wantString(t, "PlayString", all, behind)
		for cut := range int64(33) {
			y, first, _ := impl.PlayString(x, cut)
			wantSamples(t, "up to the cut", first, samples[:cut])
			read, code := impl.ReadString(impl.StringText(y))
			want(t, "ReadString", code, impl.OK)
			y, block, code := impl.BlockOfString(read, impl.Block{})
			want(t, "BlockOfString", code, impl.OK)
			wantSamples(t, "the block", block[:], samples[cut:cut+16])
			y, last, _ := impl.PlayString(y, 48-16-cut)
			wantSamples(t, "behind the block", last, samples[cut+16:])
			wantString(t, "the string behind", y, all)
		}
	}
}

func TestP6BlocksAreSteps(t *testing.T) {
	random := newRandom()
	for _, x := range validStrings() {
		for _, b := range []impl.Block{loudBlock(random), anyBlock(random), filled(nan), filled(minusZero), filled(greatest), filled(leastSample)} {
			behind, made := playedAlone(x, b[:])
			y, out, code := impl.BlockOfString(x, b)
			want(t, "BlockOfString", code, impl.OK)
			wantSamples(t, "BlockOfString", out[:], made)
			wantString(t, "BlockOfString", y, behind)
		}
	}
}

func TestP6CountsOfSteps(t *testing.T) {
	x := plucked(newString(7.6, 0.2, 1), 0.3, 1)
	for _, y := range append(validStrings(), x) {
		z, samples, code := impl.PlayString(y, 0)
		want(t, "no steps", code, impl.OK)
		want(t, "no steps", len(samples), 0)
		wantString(t, "no steps", z, y)
	}
	behind, made := playedAlone(x, make([]float32, impl.MaxPlay))
	y, samples, code := impl.PlayString(x, impl.MaxPlay)
	want(t, "most steps", code, impl.OK)
	wantSamples(t, "most steps", samples, made)
	wantString(t, "most steps", y, behind)
	for _, count := range []int64{-1, impl.MaxPlay + 1, 1 << 32, 1<<32 + 5, math.MinInt64, math.MaxInt64} {
		wantNotPlayed(t, x, count, impl.ErrRange)
		for _, y := range invalidStrings() {
			wantNotPlayed(t, y, count, impl.ErrInvalid)
		}
	}
}

func wantNotPlayed(t *testing.T, x impl.String, count, expected int64) {
	t.Helper()
	y, samples, code := impl.PlayString(x, count)
	want(t, "PlayString", code, expected)
	want(t, "samples with an error", len(samples), 0)
	wantString(t, "with an error", y, impl.String{})
}

func TestP6StepsOfStringsThatAreNotValid(t *testing.T) {
	for _, x := range invalidStrings() {
		wantNotPlayed(t, x, 0, impl.ErrInvalid)
		wantNotPlayed(t, x, 5, impl.ErrInvalid)
		y, out, code := impl.StepString(x, 1)
		want(t, "StepString", code, impl.ErrInvalid)
		wantSample(t, "StepString", out, 0)
		wantString(t, "StepString", y, impl.String{})
		y, block, code := impl.BlockOfString(x, filled(1))
		want(t, "BlockOfString", code, impl.ErrInvalid)
		wantBlock(t, "BlockOfString", block, impl.Block{})
		wantString(t, "BlockOfString", y, impl.String{})
	}
}

func TestP6StringsMakeWhatWasCalculated(t *testing.T) {
	floats := func(bits ...uint32) []float32 {
		var list []float32
		for _, b := range bits {
			list = append(list, math.Float32frombits(b))
		}
		return list
	}
	x, _, _ := impl.PlayString(newString(7.6, 0.2, 0.95), 3)
	x = plucked(x, 0.37, 0.8)
	x, _ = impl.StrikeString(x, 0.7, []float32{0.1, -0.2, 0.3, 0.4})
	x, seed, _ := impl.NoiseString(x, 0.25, 11)
	want(t, "the seed", seed, 764205202)
	wantRing(t, "what is added", x.Loop, impl.Ring{At: 3, Samples: floats(0x3f16c670, 0x3e6937fb, 0x3ea407ae, 0xbdee7e68, 0x3df88cb4, 0x3f29f648, 0x3f31e180)})
	x, samples, _ := impl.PlayString(x, 32)
	wantSamples(t, "PlayString", samples, floats(
		0xbdee7e68, 0x3df88cb4, 0x3f29f648, 0x3f31e180, 0x3f16c670, 0x3e6937fb, 0x3ea407ae, 0xbd1b5c94, 0xbd2cdae8, 0x3ea0ef17, 0x3f2c5dd0, 0x3f1d3482, 0x3ee08fd7, 0x3e6132be, 0x3e532fad, 0xbd95de13,
		0x3dba6bbb, 0x3edf9eaf, 0x3f239bb1, 0x3f037aef, 0x3eacab25, 0x3e439b44, 0x3de07eb4, 0xbd22b039, 0x3e634bb5, 0x3efee350, 0x3f131d58, 0x3ed5936d, 0x3e8792f9, 0x3e168ea4, 0x3d575db0, 0x3d184066))
	wantRing(t, "behind it", x.Loop, impl.Ring{Samples: floats(0x3ea6a083, 0x3f023e3b, 0x3efdedec, 0x3eaaf1a7, 0x3e53d370, 0x3dd1e950, 0x3d254e15)})
	wantSamples(t, "Tune", x.Tune.S[:], floats(0x3d184066, 0x3d01270e))
	wantSamples(t, "Damp", x.Damp.S[:], floats(0x3d01270e, 0))
	noise, _ := impl.NoiseBlock(5)
	x, block, _ := impl.BlockOfString(x, noise)
	wantSamples(t, "BlockOfString", block[:], floats(
		0x3ea6a083, 0x3f023e3b, 0x3efdedec, 0x3eaaf1a7, 0x3e53d370, 0x3dd1e950, 0x3d254e15, 0x3e185916, 0xbc453260, 0x3f27f5f2, 0xbbd7d340, 0x3f924267, 0x3e4e4a7b, 0x3e96e519, 0xbe85d882, 0x3f738fbf))
	wantRing(t, "behind the block", x.Loop, impl.Ring{At: 2, Samples: floats(0xbed8a5ac, 0x3e0bf700, 0xbea138d4, 0x3def262c, 0xbf0356ee, 0x3f81afda, 0x3e9ba196)})
	wantSamples(t, "Tune behind it", x.Tune.S[:], floats(0x3f738fbf, 0x3d22b9d0))
	wantSamples(t, "Damp behind it", x.Damp.S[:], floats(0x3d22b9d0, 0))
}

func TestP6WholePeriodsComeAgain(t *testing.T) {
	for _, period := range []int{3, 4, 10, 500, 1024} {
		x, _, _ := impl.NoiseString(newString(float32(period), 0, 1), 1, 3)
		_, samples, _ := impl.PlayString(x, impl.MaxPlay)
		wantSamples(t, "a period later", samples[period:], samples[:len(samples)-period])
	}
}

func TestP6StringsSoundWithThePeriod(t *testing.T) {
	for _, c := range []struct{ period, mix, loss float32 }{{100.3, 0, 1}, {100.7, 0.5, 1}, {64.24, 0.2, 0.999}, {64.25, 0, 0.999}, {200.9, 0.3, 1}, {150, 0.45, 0.998}} {
		_, samples, _ := impl.PlayString(plucked(newString(c.period, c.mix, c.loss), 0.3, 1), impl.MaxPlay)
		best, loudest := 0.0, 0.0
		for off := -0.2; off <= 0.2; off += 0.01 {
			period := float64(c.period) + off
			if now := loudnessAt(samples, period); now > loudest {
				best, loudest = period, now
			}
		}
		if math.Abs(best-float64(c.period)) > 0.05 {
			t.Errorf("period %v, mix %v: it sounds with the period %v", c.period, c.mix, best)
		}
	}
}

// loudnessAt returns how much of a sound has a period, its ends being faded.
func loudnessAt(samples []float32, period float64) float64 {
	var re, im float64
	for i, a := range samples {
		fade := 0.5 - 0.5*math.Cos(2*math.Pi*float64(i)/float64(len(samples)))
		re += fade * float64(a) * math.Cos(2*math.Pi*float64(i)/period)
		im += fade * float64(a) * math.Sin(2*math.Pi*float64(i)/period)
	}
	return math.Hypot(re, im)
}
