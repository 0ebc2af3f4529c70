package tests

import (
	"math"
	"testing"

	"loop.example/g01173/impl"
)

func TestP12StepsOfRoomsAreThoseOfTheDocument(t *testing.T) {
	stepsAreTold(t, rooms())
}

func TestP12RoomsArePlayedInBlocksOfAnyCut(t *testing.T) {
	cutsGoOn(t, rooms())
}

func TestP12BlocksOfRoomsAreSteps(t *testing.T) {
	blocksAreSteps(t, rooms())
}

func TestP12CountsOfSamples(t *testing.T) {
	countsAreKept(t, rooms())
}

func TestP12StepsOfRoomsThatAreNotValid(t *testing.T) {
	stepsAreRefused(t, rooms())
}

// bare has rings of one sample in all loops, filters that change nothing, and
// combs that pass what comes in the first step: both make the opposite of it.
func bare(early []float32, taps []impl.Tap, loops, gains [4]float32, dry, wet float32) impl.Room {
	x := newRoom([4]int64{1, 1, 1, 1}, 1, 0, 0)
	x.Early, x.Taps, x.Gains, x.Dry, x.Wet = impl.Ring{Samples: early}, taps, gains, dry, wet
	for i := range x.Combs {
		x.Combs[i] = impl.Comb{Ring: impl.Ring{Samples: []float32{0}}, Gain: 1}
	}
	for i, a := range loops {
		x.Loops[i].Samples[0] = a
	}
	return x
}

// coming has what comes into the rings of a room, and what this makes.
type coming struct {
	early, first, second float32
	loops                [4]float32
	made                 float32
}

func wantComing(t *testing.T, x impl.Room, in float32, c coming) {
	t.Helper()
	at := x.Early.At
	y, made, code := impl.StepRoom(x, in)
	want(t, "StepRoom", code, impl.OK)
	wantSample(t, "it makes", made, c.made)
	wantSample(t, "early", y.Early.Samples[at], c.early)
	wantSamples(t, "the combs", []float32{y.Combs[0].Ring.Samples[0], y.Combs[1].Ring.Samples[0]}, []float32{c.first, c.second})
	for i, r := range y.Loops {
		wantSample(t, "a loop", r.Samples[0], c.loops[i])
	}
	expected, _ := stepOfRoom(x, in)
	wantRoom(t, "StepRoom", y, expected)
}

func TestP12WhatComesIntoWhichRing(t *testing.T) {
	ones, none := [4]float32{1, 1, 1, 1}, [4]float32{}
	half := leastNormal / 2
	for _, c := range []struct {
		early, gain, in float32
		loops, gains    [4]float32
		dry, wet        float32
		coming
	}{
		{2, 0.25, 0.5, [4]float32{1, 2, 3, 4}, [4]float32{1, 0.5, 2, -1}, 1, 0.5, coming{0.5, 1, -1, [4]float32{3, 6, 1, -4}, 5.5}},
		{0, 1, 0, [4]float32{8, 0, 0, 0}, ones, 1, 1, coming{0, 0, 0, [4]float32{4, 4, 4, 4}, 8}}, {0, 1, 0, [4]float32{0, 8, 0, 0}, ones, 1, 1, coming{0, 0, 0, [4]float32{4, -4, 4, -4}, 8}},
		{0, 1, 0, [4]float32{0, 0, 8, 0}, ones, 1, 1, coming{0, 0, 0, [4]float32{4, 4, -4, -4}, 8}}, {0, 1, 0, [4]float32{0, 0, 0, 8}, ones, 1, 1, coming{0, 0, 0, [4]float32{4, -4, -4, 4}, 8}},
		{4, -0.5, 3, none, none, -2, 9, coming{3, 1, -1, ones, -6}}, {0, 0, 3, [4]float32{1, 1, 1, 1}, [4]float32{0, 2, 0, 0}, 0, 0.25, coming{3, 3, -3, [4]float32{4, 2, 4, 2}, 1}},
		// What is not finite comes as 0.
		{2, 1, nan, ones, ones, 1, 1, coming{0, 0, 0, none, nan}}, {2, 1, infinite, ones, ones, 1, 1, coming{0, 0, 0, none, infinite}}, {2, 1, -infinite, ones, ones, 1, 1, coming{0, 0, 0, none, -infinite}}, {2, 1, infinite, none, none, 0, 0, coming{0, 0, 0, none, nan}},
		{greatest, 1, greatest, none, none, 1, 1, coming{greatest, 0, 0, none, greatest}}, {greatest, 2, 1, none, none, 1, 1, coming{1, 0, 0, none, 1}}, {greatest, 2, -infinite, none, none, 1, 1, coming{0, 0, 0, none, -infinite}},
		{0, 0, 0, [4]float32{greatest, 0, 0, 0}, [4]float32{2, 0, 0, 0}, 1, 0.5, coming{0, 0, 0, none, greatest / 2}}, {0, 0, 1, [4]float32{greatest, greatest, 0, 0}, ones, 1, 1, coming{1, 1, -1, [4]float32{0, 1, 0, 1}, infinite}}, {0, 0, greatest, [4]float32{greatest, 0, 0, 0}, ones, 1, -1, coming{greatest, greatest, -greatest, none, 0}},
		{0, 0, 1, [4]float32{greatest, greatest, -greatest, -greatest}, none, 1, 0, coming{1, 1, -1, ones, nan}}, {0, 0, greatest, none, none, 2, 1, coming{greatest, greatest, -greatest, [4]float32{greatest, greatest, greatest, greatest}, infinite}}, {0, 0, 1, ones, none, 1, greatest, coming{1, 1, -1, ones, infinite}},
		// What is subnormal or -0 comes as 0, but what is made is not flushed.
		{0, 0, leastSample, none, none, 1, 1, coming{0, 0, 0, none, leastSample}}, {0, 0, -mostSub, [4]float32{leastNormal, leastNormal, leastNormal, leastNormal}, ones, 1, 0, coming{0, 0, 0, [4]float32{leastNormal + leastSample, 0, 0, 0}, -mostSub}}, {mostSub, 1, 0, none, none, 1, 1, coming{0, 0, 0, none, 0}},
		{mostSub, 1, leastSample, none, none, 1, 1, coming{0, leastNormal, -leastNormal, [4]float32{leastNormal, leastNormal, leastNormal, leastNormal}, leastSample}}, {0, 0, half, [4]float32{leastNormal, 0, 0, 0}, ones, 0, 0.5, coming{0, 0, 0, [4]float32{leastNormal, leastNormal, leastNormal, leastNormal}, half}}, {0, 0, 0, [4]float32{leastNormal, 0, 0, 0}, ones, 1, 1, coming{0, 0, 0, none, leastNormal}},
		{0, 0, minusZero, none, none, 1, 1, coming{0, 0, 0, none, 0}}, {0, 0, minusZero, none, none, 1, -1, coming{0, 0, 0, none, minusZero}}, {minusZero, 1, minusZero, [4]float32{minusZero, minusZero, minusZero, minusZero}, ones, 1, 1, coming{0, 0, 0, none, minusZero}}, {0, 0, 0, none, none, -1, minusZero, coming{0, 0, 0, none, minusZero}},
		// Another order of the four oldest ones makes another number.
		{0, 0, 0, [4]float32{1e8, 1, -1e8, 1}, none, 1, 1, coming{0, 0, 0, none, 0}}, {0, 0, 0, [4]float32{1e8, -1e8, 1, 1}, none, 1, 1, coming{0, 0, 0, none, 2}}, {0, 0, 0, [4]float32{1e8, 1, 1, -1e8}, none, 1, 1, coming{0, 0, 0, none, 0}}, {0, 0, 0, [4]float32{1, 1, 1e8, -1e8}, none, 1, 1, coming{0, 0, 0, none, 2}},
	} {
		wantComing(t, bare([]float32{c.early}, []impl.Tap{{Back: 1, Gain: c.gain}}, c.loops, c.gains, c.dry, c.wet), c.in, c.coming)
	}
}

func TestP12WhatTheTapsHear(t *testing.T) {
	for _, c := range []struct {
		taps   []impl.Tap
		in     float32
		echoed float32
	}{
		{nil, 0.5, 0.5}, {[]impl.Tap{{Back: 1, Gain: 1}}, 0.5, 3.5}, {[]impl.Tap{{Back: 2, Gain: 1}}, 0.5, 2.5}, {[]impl.Tap{{Back: 3, Gain: 1}}, 0.5, 1.5}, {[]impl.Tap{{Back: 3, Gain: 0.5}, {Back: 1, Gain: -2}}, 0.5, -5}, {[]impl.Tap{{Back: 2, Gain: 0.25}, {Back: 2, Gain: 0.25}}, 0.5, 1.5}, {[]impl.Tap{{Back: 1, Gain: 0.5}, {Back: 1, Gain: -0.5}}, 0.5, 0.5},
		{[]impl.Tap{{Back: 1, Gain: 1}, {Back: 1, Gain: 2}, {Back: 2, Gain: 3}, {Back: 2, Gain: 4}, {Back: 3, Gain: 5}, {Back: 3, Gain: 6}}, 1, 35},
		// The sum is made from the first tap to the last one, and is added to what comes then.
		{[]impl.Tap{{Back: 3, Gain: 1e8}, {Back: 3, Gain: -1e8}, {Back: 3, Gain: 1}}, 0, 1}, {[]impl.Tap{{Back: 3, Gain: 1e8}, {Back: 3, Gain: 1}, {Back: 3, Gain: -1e8}}, 0, 0}, {[]impl.Tap{{Back: 3, Gain: 1}, {Back: 3, Gain: 1e8}, {Back: 3, Gain: -1e8}}, 0, 0}, {[]impl.Tap{{Back: 3, Gain: -1e8}, {Back: 3, Gain: 1}}, 1e8, 0}, {[]impl.Tap{{Back: 3, Gain: 1}, {Back: 3, Gain: 1}}, 1e8, 1e8},
		{[]impl.Tap{{Back: 1, Gain: greatest}}, 1, 0}, {[]impl.Tap{{Back: 1, Gain: greatest}, {Back: 1, Gain: -greatest}}, 1, 0}, {[]impl.Tap{{Back: 1, Gain: leastSample}, {Back: 1, Gain: mostSub}}, 0, 3 * leastNormal}, {[]impl.Tap{{Back: 3, Gain: minusZero}}, minusZero, 0},
	} {
		for at := range int64(3) {
			x := bare(nil, c.taps, [4]float32{}, [4]float32{}, 1, 1)
			x.Early = numbered(3, at)
			wantComing(t, x, c.in, coming{c.in + 0, c.echoed, -c.echoed + 0, [4]float32{c.echoed, c.echoed, c.echoed, c.echoed}, c.in + 0})
		}
	}
}

func TestP12EchoesComeBack(t *testing.T) {
	// The first comb does not change what comes into its ring.
	for length := int64(1); length <= 20; length++ {
		for back := int64(1); back <= length; back++ {
			x := tapped(newRoom([4]int64{1, 1, 1, 1}, 1, 0, 0), length, impl.Tap{Back: back, Gain: 0.5})
			x.Combs[0] = impl.Comb{Ring: impl.Ring{Samples: []float32{0}}}
			for i := range length + 5 {
				x, _, _ = impl.StepRoom(x, pick(i == 0, float32(1), 0))
				wantSample(t, "what comes", x.Combs[0].Ring.Samples[0], pick(i == 0, 1, pick(i == back, float32(0.5), 0)))
			}
		}
	}
}

func TestP12WhatTheFiltersOfRoomsKeep(t *testing.T) {
	for _, c := range []struct{ keep, state, oldest, gain, y float32 }{
		{0, 5, 2, 1, 2}, {0.25, 0, 2, 1, 1.5}, {0.25, 2, 4, 0.5, 2}, {0.25, -2, 2, -1, -2}, {0.5, minusZero, minusZero, 1, minusZero}, {0.5, 0, leastNormal, 1, leastNormal / 2}, {0, 0, greatest, 2, infinite}, {3, greatest, -greatest, 1, infinite},
	} {
		for i := range 4 {
			x := bare([]float32{0}, nil, [4]float32{}, [4]float32{}, 1, 1)
			x.Damps[i] = impl.OnePole(c.keep)
			x.Damps[i].S[0], x.Loops[i].Samples[0], x.Gains[i] = c.state, c.oldest, c.gain
			y, made, code := impl.StepRoom(x, 0)
			want(t, "StepRoom", code, impl.OK)
			wantSample(t, "it makes", made, c.oldest+0)
			for j, f := range y.Damps {
				wantSample(t, "a state", f.S[0], pick(i == j, keptOf(c.y), 0))
			}
			var mixed [4]float32
			mixed[i] = c.y
			for j, h := range mixOf(mixed) {
				wantSample(t, "what comes", y.Loops[j].Samples[0], keptOf(h))
			}
		}
	}
}

func TestP12RoomsMakeWhatWasCalculated(t *testing.T) {
	x := tapped(newRoom([4]int64{3, 5, 2, 4}, 60, 0.3, 0.45), 6, impl.Tap{Back: 4, Gain: 0.6}, impl.Tap{Back: 1, Gain: -0.35}, impl.Tap{Back: 6, Gain: 0.2})
	expected := x
	x, made, code := impl.PlayRoom(x, rampOfTests())
	want(t, "PlayRoom", code, impl.OK)
	wantSamples(t, "PlayRoom", made, samplesOfBits(
		0x3e4ccccd, 0x3e6aaaab, 0x3e8fc963, 0x3ea7e354, 0x3ebddef0, 0x3ecca8ac, 0x3ed3d31c, 0x3eddc572, 0x3ed7800b, 0x3edcecc7, 0x3ed3c9ce, 0x3ecf0618,
		0x3eb96834, 0x3eb55cba, 0x3e91821e, 0x3ea72048, 0x3ece5526, 0x3eaea13d, 0x3ebeed0c, 0x3eea4011, 0x3f058c07, 0x3f1a8345, 0x3f313db4, 0x3f45a308))
	expected.Early = ringOfBits(0, 0x3f399999, 0x3f411111, 0x3f488888, 0x3f500000, 0x3f577777, 0x3f5eeeee)
	expected.Combs[0].Ring = ringOfBits(0, 0x3ff4aaab, 0x3fff8fae, 0x400527c2)
	expected.Combs[1].Ring = ringOfBits(4, 0x3f6aba22, 0x3f7fba74, 0x3f8ad504, 0x3f9609d8, 0x3f57ecce)
	expected.Loops = [4]impl.Ring{
		ringOfBits(0, 0xbd99f2d8, 0x3c187d30, 0x3dc7afcc), ringOfBits(4, 0x3c7ff558, 0x3d61eaa6, 0x3dc9dbca, 0x3e23353c, 0xbcd3e6ba),
		ringOfBits(0, 0x3d5a6ae4, 0x3df43a0c), ringOfBits(0, 0xbc1d9a90, 0x3d0bab36, 0x3dad1432, 0x3e0c78e1),
	}
	for i, bits := range [4]uint32{0xbdf588d7, 0xbd237260, 0x396e7560, 0xbcb405ee} {
		expected.Damps[i].S[0] = math.Float32frombits(bits)
	}
	wantRoom(t, "PlayRoom", x, expected)
	wantEnergy(t, x, math.Float64frombits(0x3fb93da979a66595))

	noise, _ := impl.NoiseBlock(5)
	x, block, code := impl.BlockOfRoom(x, noise)
	want(t, "BlockOfRoom", code, impl.OK)
	wantSamples(t, "BlockOfRoom", block[:], samplesOfBits(
		0xbbe52e78, 0xbea53b5d, 0x3e811706, 0xbeb813cd, 0x3f85df8d, 0x3e9f2176, 0x3f5a5c11, 0x3efa5556, 0x3fff6fa7, 0x3f5522b4, 0x3fa0e2f2, 0x3f953c02, 0x400e6e9a, 0x402e2bc4, 0x400b9c3d, 0x40544c76))
	expected.Early = ringOfBits(4, 0x3de5e690, 0x3e5472b8, 0xbf153898, 0x3d729be0, 0xbeb2f91c, 0xbf4df2ac)
	expected.Combs[0].Ring = ringOfBits(1, 0x3d0214a0, 0xbdbb84d6, 0xbf29f292)
	expected.Combs[1].Ring = ringOfBits(0, 0x40225c5f, 0x3ed583fa, 0x3ef95cd5, 0x3f8e414b, 0x3fac59e3)
	expected.Loops = [4]impl.Ring{
		ringOfBits(1, 0x40401ff0, 0x40011bc1, 0x403cd78d), ringOfBits(0, 0x3edf5fd1, 0x403366e8, 0x3f626747, 0x3fbf1236, 0x3fc6f5e4),
		ringOfBits(0, 0x3f0ade3c, 0x3fceeac2), ringOfBits(0, 0x40138de1, 0x3f0dd5e9, 0x3f8f1e0c, 0x3f898a9c),
	}
	for i, bits := range [4]uint32{0x40159c79, 0x3f7eaa1f, 0x3f6ec065, 0x3ee7d3aa} {
		expected.Damps[i].S[0] = math.Float32frombits(bits)
	}
	wantRoom(t, "BlockOfRoom", x, expected)
	wantEnergy(t, x, math.Float64frombits(0x40471933f5031d84))
}
