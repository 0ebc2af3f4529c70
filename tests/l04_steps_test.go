package tests

import (
	"math"
	"testing"

	"loop.example/g01173/impl"
)

func TestP8StepsAreThoseOfTheDocument(t *testing.T) {
	random := newRandom()
	noise := loudBlock(random)
	breaths := append(awkward(), noise[:]...)
	for _, x := range validPipes() {
		y := x
		for i, a := range breaths {
			expected, made := stepOfPipe(x, a)
			next, e, code := impl.StepPipe(x, a)
			want(t, "StepPipe", code, impl.OK)
			wantSample(t, "StepPipe", e, made)
			wantPipe(t, "StepPipe", next, expected)
			want(t, "ValidPipe", impl.ValidPipe(next), true)

			expected, made = stepOfPipe(y, noise[i%len(noise)])
			y, e, code = impl.StepPipe(y, noise[i%len(noise)])
			want(t, "one after the other", code, impl.OK)
			wantSample(t, "one after the other", e, made)
			wantPipe(t, "one after the other", y, expected)
		}
	}
}

// meeting has two sections of one sample each, with the oldest samples r(0), l(0), r(1) and l(1).
func meeting(r0, l0, r1, l1 float32) impl.Pipe {
	x := newPipe([]int64{1, 1}, []float32{0.5}, false, 0, 1)
	x.Right[0].Samples[0], x.Left[0].Samples[0] = r0, l0
	x.Right[1].Samples[0], x.Left[1].Samples[0] = r1, l1
	return x
}

func TestP8WhatComesFromTheMouth(t *testing.T) {
	for _, c := range []struct{ rest, slope, left, breath, comes float32 }{
		{0.75, -0.375, 0, 1, 0}, {0.75, -0.375, 1, 0, 0.375}, {0.75, -0.375, 3, 1, 1}, {0.75, -0.375, 4, 1, -0.125}, {0.75, -0.375, -1, 3, -1}, {0, 0, 0.5, 2, 2}, {1, 0, 0.5, 2, 0.5},
		{5, 0, 0.5, 2, 0.5}, {-5, 0, 0.5, 2, 3.5}, {0.5, 0, 2, -2, 0},
		{0.75, -0.375, 1, nan, 0}, {0.75, -0.375, 1, infinite, 0}, {0.75, -0.375, 1, -infinite, 0}, {0, 0, 1, infinite, 0}, {0, 0, 1, leastSample, 0}, {0, 0, 1, -mostSub, 0}, {0, 0, -1, leastNormal, leastNormal},
		{0, 0, minusZero, minusZero, 0}, {1, 0, leastSample, 0, 0}, {1, 0, leastNormal, 0, leastNormal}, {-1, 0, greatest, -greatest, 0}, {0, 0, greatest, greatest, greatest}, {1, 0, mostSub, leastSample, 0},
	} {
		x, _ := impl.WithReed(meeting(0, c.left, 0, 0), c.rest, c.slope)
		y, e, code := impl.StepPipe(x, c.breath)
		want(t, "StepPipe", code, impl.OK)
		wantSample(t, "it makes", e, 0)
		wantSample(t, "what comes", y.Right[0].Samples[0], c.comes)
		wantSamples(t, "the others", []float32{y.Left[0].Samples[0], y.Right[1].Samples[0], y.Left[1].Samples[0]}, make([]float32, 3))
	}
}

func TestP8WhereSectionsMeet(t *testing.T) {
	for _, c := range []struct{ k, r, l, right, left float32 }{
		{0.5, 1, 0, 1.5, 0.5}, {0.5, 0, 1, -0.5, 0.5}, {-0.25, 2, 1, 1.75, 0.75}, {1, 2, 3, 1, 2}, {-1, 2, 3, 3, 4}, {0, 2, 3, 2, 3}, {minusZero, 2, 3, 2, 3}, {0.5, 2, 2, 2, 2},
		{0, minusZero, minusZero, 0, 0}, {0, leastSample, -mostSub, 0, 0}, {1, mostSub, -leastSample, mostSub + leastNormal, mostSub}, {1, greatest, 0, 0, greatest}, {1, -greatest, greatest, 0, 0},
		// The difference is infinite, so that there is no number for what is scattered.
		{0, greatest, -greatest, 0, 0}, {leastNormal, leastNormal, 1, 0, 1}, {0.3, 1e20, 1e-20, 1.3e20, 3e19},
	} {
		x := passing(meeting(c.r, 7, 0, c.l), 0)
		x.Scatter[0] = c.k
		y, e, code := impl.StepPipe(x, 0)
		want(t, "StepPipe", code, impl.OK)
		wantSample(t, "it makes", e, 0)
		wantSample(t, "to the right", y.Right[1].Samples[0], keptOf(c.right))
		wantSample(t, "to the left", y.Left[0].Samples[0], keptOf(c.left))
		wantSamples(t, "the others", []float32{y.Right[0].Samples[0], y.Left[1].Samples[0]}, make([]float32, 2))
	}
}

func TestP8SignsAtTheEnd(t *testing.T) {
	for _, c := range []struct{ keep, state, r, loss, e, closed float32 }{
		{0, 0, 1, 1, 1, 1}, {0, 0, -1, 0.5, -1, -0.5}, {0, 0, 2, 0, 2, 0}, {0, 0, -2, 0, -2, 0}, {0.25, 2, 4, 0.5, 3.5, 1.75}, {0.25, -2, 4, -0.5, 2.5, -1.25}, {0, 5, 4, 1, 4, 4},
		// What the end makes is not flushed, but what comes from it is.
		{0, 0, leastSample, 1, leastSample, 0}, {0.5, 0, leastNormal, 2, leastNormal / 2, leastNormal}, {0, -1, minusZero, 1, minusZero, 0}, {0, 0, minusZero, 1, 0, 0}, {0.5, minusZero, minusZero, 1, minusZero, 0},
		{0, 0, greatest, 2, greatest, 0}, {0, 0, leastNormal, 0.5, leastNormal, 0}, {-1, greatest, 0, 1, -greatest, -greatest}, {3, greatest, -greatest, 0, infinite, 0}, {3, -greatest, greatest, 1, -infinite, 0},
	} {
		for _, open := range []bool{false, true} {
			x := passing(meeting(0, 0, c.r, 0), 0)
			x.End = impl.OnePole(c.keep)
			x.End.S[0] = c.state
			x.Loss, x.Open = c.loss, open
			y, e, code := impl.StepPipe(x, 0)
			want(t, "StepPipe", code, impl.OK)
			wantSample(t, "it makes", e, c.e)
			back := c.closed
			if open && back != 0 {
				back = -back
			}
			wantSample(t, "what comes back", y.Left[1].Samples[0], back)
			wantSample(t, "the state", y.End.S[0], keptOf(c.e))
			wantSamples(t, "the others", []float32{y.Right[0].Samples[0], y.Left[0].Samples[0], y.Right[1].Samples[0]}, make([]float32, 3))
		}
	}
}

func TestP8OpenPipesTurnTheWaveRound(t *testing.T) {
	for _, c := range []struct {
		open bool
		made []float32
	}{
		{false, []float32{0, 1, 0, 0, 0, 0.5, 0, 0, 0, 0.25, 0, 0, 0, 0.125}},
		{true, []float32{0, 1, 0, 0, 0, -0.5, 0, 0, 0, 0.25, 0, 0, 0, -0.125}},
	} {
		x := passing(newPipe([]int64{2}, nil, c.open, 0, 0.5), 0)
		x, _, code := impl.StepPipe(x, 1)
		want(t, "the breath", code, impl.OK)
		_, made, code := impl.PlayPipe(passing(x, 1), make([]float32, len(c.made)))
		want(t, "the echoes", code, impl.OK)
		wantSamples(t, "the echoes", made, c.made)
	}
}

func TestP8PipesArePlayedInBlocksOfAnyCut(t *testing.T) {
	random := newRandom()
	for i, x := range validPipes() {
		one, two, three := loudBlock(random), loudBlock(random), loudBlock(random)
		breath := append(append(append([]float32{}, one[:]...), two[:]...), three[:]...)
		breath[5], breath[20], breath[30] = awkward()[i%len(awkward())], minusZero, leastSample
		all, made, code := impl.PlayPipe(x, breath)
		want(t, "PlayPipe", code, impl.OK)
		behind, expected := playedPipe(x, breath)
		wantSamples(t, "PlayPipe", made, expected)
		wantPipe(t, "PlayPipe", all, behind)
		for cut := range 33 {
			y, first, code := impl.PlayPipe(x, breath[:cut])
			want(t, "up to the cut", code, impl.OK)
			wantSamples(t, "up to the cut", first, made[:cut])
			read, code := impl.ReadPipe(impl.PipeText(y))
			want(t, "ReadPipe", code, impl.OK)
			y, block, code := impl.BlockOfPipe(read, impl.Block(breath[cut:cut+16]))
			want(t, "BlockOfPipe", code, impl.OK)
			wantSamples(t, "the block", block[:], made[cut:cut+16])
			y, last, _ := impl.PlayPipe(y, breath[cut+16:])
			wantSamples(t, "behind the block", last, made[cut+16:])
			wantPipe(t, "the pipe behind", y, all)
		}
	}
}

func TestP8BlocksAreSteps(t *testing.T) {
	random := newRandom()
	for _, x := range validPipes() {
		for _, b := range []impl.Block{loudBlock(random), anyBlock(random), filled(nan), filled(minusZero), filled(greatest), filled(leastSample), filled(-infinite)} {
			behind, made := playedPipe(x, b[:])
			y, block, code := impl.BlockOfPipe(x, b)
			want(t, "BlockOfPipe", code, impl.OK)
			wantSamples(t, "BlockOfPipe", block[:], made)
			wantPipe(t, "BlockOfPipe", y, behind)
		}
	}
}

func TestP8CountsOfBreaths(t *testing.T) {
	for _, x := range validPipes() {
		for _, none := range [][]float32{nil, {}} {
			y, made, code := impl.PlayPipe(x, none)
			want(t, "no breath", code, impl.OK)
			want(t, "no breath", len(made), 0)
			wantPipe(t, "no breath", y, x)
		}
	}
	x := newPipe([]int64{20, 10}, []float32{0.3}, true, 0.3, 0.97)
	breath, _ := impl.BreathRamp(0.4, 0.8, impl.MaxBreath)
	behind, expected := playedPipe(x, breath)
	y, made, code := impl.PlayPipe(x, breath)
	want(t, "most breaths", code, impl.OK)
	wantSamples(t, "most breaths", made, expected)
	wantPipe(t, "most breaths", y, behind)
	for _, n := range []int{impl.MaxBreath + 1, 2 * impl.MaxBreath, 100000} {
		wantNotBlown(t, x, make([]float32, n), impl.ErrLimit)
		for _, y := range invalidPipes() {
			wantNotBlown(t, y, make([]float32, n), impl.ErrInvalid)
		}
	}
}

func wantNotBlown(t *testing.T, x impl.Pipe, breath []float32, expected int64) {
	t.Helper()
	y, made, code := impl.PlayPipe(x, breath)
	want(t, "PlayPipe", code, expected)
	want(t, "samples with an error", len(made), 0)
	wantPipe(t, "with an error", y, impl.Pipe{})
}

func TestP8StepsOfPipesThatAreNotValid(t *testing.T) {
	for _, x := range invalidPipes() {
		wantNotBlown(t, x, nil, impl.ErrInvalid)
		wantNotBlown(t, x, []float32{1, nan}, impl.ErrInvalid)
		y, e, code := impl.StepPipe(x, 1)
		want(t, "StepPipe", code, impl.ErrInvalid)
		wantSample(t, "StepPipe", e, 0)
		wantPipe(t, "StepPipe", y, impl.Pipe{})
		y, block, code := impl.BlockOfPipe(x, filled(1))
		want(t, "BlockOfPipe", code, impl.ErrInvalid)
		wantBlock(t, "BlockOfPipe", block, impl.Block{})
		wantPipe(t, "BlockOfPipe", y, impl.Pipe{})
	}
}

func samplesOfBits(bits ...uint32) []float32 {
	var list []float32
	for _, b := range bits {
		list = append(list, math.Float32frombits(b))
	}
	return list
}

func rampOfTests() []float32 {
	return samplesOfBits(
		0x3e4ccccd, 0x3e6aaaab, 0x3e844444, 0x3e933333, 0x3ea22222, 0x3eb11111, 0x3ec00000, 0x3eceeeee, 0x3eddddde, 0x3eeccccc, 0x3efbbbbc, 0x3f055555,
		0x3f0ccccd, 0x3f144444, 0x3f1bbbbb, 0x3f233333, 0x3f2aaaab, 0x3f322222, 0x3f399999, 0x3f411111, 0x3f488888, 0x3f500000, 0x3f577777, 0x3f5eeeee)
}

// calculated has what was calculated apart from the program: what a pipe makes
// of a ramp, its rings and its state behind it; then what it makes of noise
// behind two pulses, and again the rings and the state.
type calculated struct {
	open               bool
	made, more         []uint32
	rings, ringsBehind [][]uint32
	state, stateBehind uint32
}

func TestP8PipesMakeWhatWasCalculated(t *testing.T) {
	for _, c := range []calculated{
		{
			open: true,
			made: []uint32{0, 0, 0, 0, 0, 0, 0, 0, 0, 0x3c32e9cb, 0x3c83e0ef, 0x3c99db2a, 0x3ca60664, 0x3cbcbdf0, 0x3cc723ea, 0x3ce641ca, 0x3cf2d5c3, 0x3cd9f138, 0x3cbd1280, 0x3c631b85, 0x3c021bcc, 0x3ba7ede7, 0x3b0b53c9, 0xbb99fd36},
			rings: [][]uint32{{0xbd247280, 0xbd493da0, 0xbd468a30}, {0xbd475f1a, 0xbd43e355, 0xbd0bb423}, {0xbd34e797, 0xbd2a22a8}, {0xbccc03a1, 0xb9917020},
				{0xbc6a9f6f, 0xbcaaf9f5, 0xbca35adf, 0xbcb24749}, {0xbbf734d0, 0xbb9f8868, 0xbb045c65, 0x3b924a26}},
			state: 0xbb99fd36,
			more:  []uint32{0xbc2b924e, 0xbc88e670, 0xbc98c5e6, 0x3d8e4d0b, 0xbc7e528c, 0xbc92e32f, 0xbc98a325, 0x3b848e4b, 0xbd319cec, 0xbcbf07a2, 0xbd7e0d4f, 0xbd3fd84a, 0xbda62c1c, 0xbde40e5a, 0x3c8ac2b6, 0x3cd081ea},
			ringsBehind: [][]uint32{{0xbdd4ee50, 0x3deca6bc, 0xbe6d6bae}, {0x3d53b649, 0xbdaed521, 0x3ca86a10}, {0xbf1f54bc, 0xbd8d1c4c}, {0x3e71d81e, 0x3e38e14d},
				{0xbd96cf1e, 0xbcb16460, 0xbd72ab40, 0xbd3d4258}, {0x3d9ddd1a, 0x3dd8a73c, 0xbc83d293, 0xbcc61505}},
			stateBehind: 0x3cd081ea,
		},
		{
			open: false,
			made: []uint32{0, 0, 0, 0, 0, 0, 0, 0, 0, 0x3c32e9cb, 0x3c83e0ef, 0x3c99db2a, 0x3ca60664, 0x3cbcbdf0, 0x3cc723ea, 0x3ce641ca, 0x3cf2d5c3, 0x3d0b90b6, 0x3d17e055, 0x3d0454ec, 0x3cef0f2a, 0x3cdd1a81, 0x3cc46928, 0x3c9ceba2},
			rings: [][]uint32{{0x3b434100, 0x3b85b580, 0x3c1a6940}, {0x3ccf493c, 0x3d086195, 0x3d5514ea}, {0xbcf5b352, 0xbcaeef89}, {0x3da6c27a, 0x3d8d523a},
				{0x3c45e8c3, 0x3b968308, 0x3b90ff20, 0x3ba8c698}, {0x3ce31b35, 0x3cd20c61, 0x3cba9719, 0x3c95130d}},
			state: 0x3c9ceba2,
			more:  []uint32{0x3c74482a, 0x3c0eddc7, 0x3bc94a80, 0x3dc3ae6f, 0x3c343dae, 0x3c0b5cb1, 0x3bda8835, 0x3cfbafeb, 0xbc87a998, 0xb90df5a0, 0xbd420652, 0x3d217418, 0xbd0d5af2, 0xbd93e0a0, 0x3d240a0b, 0x3d37ca83},
			ringsBehind: [][]uint32{{0xbe0a21da, 0x3dc29560, 0xbe773922}, {0x3d340a18, 0xbd43f84e, 0xbd67bcd2}, {0xbf16fa70, 0x3dd9d436}, {0x3d83308c, 0x3e3e73ec},
				{0xbdc2d868, 0xbc8b8fa9, 0xbdf11009, 0xbd7c3d50}, {0xbd064999, 0xbd8c7bcb, 0x3d1bd657, 0x3d2e99fc}},
			stateBehind: 0x3d37ca83,
		},
	} {
		x := newPipe([]int64{3, 2, 4}, []float32{0.3, -0.6}, c.open, 0.4, 0.95)
		x, made, code := impl.PlayPipe(x, rampOfTests())
		want(t, "PlayPipe", code, impl.OK)
		wantSamples(t, "PlayPipe", made, samplesOfBits(c.made...))
		wantCalculated(t, x, c.rings, [3]int64{0, 0, 0}, c.state)
		noise, _ := impl.NoiseBlock(5)
		x, block, code := impl.BlockOfPipe(pulsed(pulsed(x, 1, 1, -0.7), 2, 0, 0.3), noise)
		want(t, "BlockOfPipe", code, impl.OK)
		wantSamples(t, "BlockOfPipe", block[:], samplesOfBits(c.more...))
		wantCalculated(t, x, c.ringsBehind, [3]int64{1, 0, 0}, c.stateBehind)
	}
}

func wantCalculated(t *testing.T, x impl.Pipe, rings [][]uint32, at [3]int64, state uint32) {
	t.Helper()
	for i := range at {
		wantRing(t, "Right", x.Right[i], impl.Ring{Samples: samplesOfBits(rings[2*i]...), At: at[i]})
		wantRing(t, "Left", x.Left[i], impl.Ring{Samples: samplesOfBits(rings[2*i+1]...), At: at[i]})
	}
	wantSample(t, "the state", x.End.S[0], math.Float32frombits(state))
}
