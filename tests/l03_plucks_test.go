package tests

import (
	"math"
	"slices"
	"testing"

	"loop.example/g01173/impl"
)

var (
	places   = []float32{0, minusZero, leastSample, 0.1, 0.3, 0.5, 0.9, math.Nextafter32(1, 0)}
	noPlaces = []float32{1, -leastSample, -0.5, 1.5, nan, otherNaN, infinite, -infinite, greatest}
	forces   = []float32{0, minusZero, 1, -0.7, leastSample, -mostSub, leastNormal, greatest, -greatest}
	noForces = []float32{nan, otherNaN, infinite, -infinite}
)

// quoOf rounds once, as sumOf does.
func quoOf(a, b float32) float32 { return float32(float64(a) / float64(b)) }

func TestP6WhatIsPluckedIsAdded(t *testing.T) {
	for _, x := range validStrings() {
		n := float32(len(x.Loop.Samples))
		for i, place := range places {
			force := forces[i%len(forces)]
			samples := fromOldest(x.Loop)
			p := proOf(place, n)
			for i := range samples {
				share := quoOf(difOf(n, float32(i)), difOf(n, p))
				if float32(i) < p {
					share = quoOf(float32(i), p)
				}
				samples[i] = sumOf(samples[i], proOf(force, share))
			}
			y, code := impl.PluckString(x, place, force)
			want(t, "PluckString", code, impl.OK)
			wantOnlyAdded(t, "PluckString", y, x, samples)
		}
	}
}

func TestP6TrianglesAreWhatWasCalculated(t *testing.T) {
	for _, c := range []struct {
		place, force float32
		bits         [9]uint32
	}{
		{0.3, 0.7, [9]uint32{0x00000000, 0x3e84bda1, 0x3f04bda1, 0x3f2aaaaa, 0x3f0e38e3, 0x3ee38e38, 0x3eaaaaaa, 0x3e638e38, 0x3de38e38}},
		{0, 0.7, [9]uint32{0x3f333333, 0x3f1f49f5, 0x3f0b60b6, 0x3eeeeeef, 0x3ec71c72, 0x3e9f49f5, 0x3e6eeeef, 0x3e1f49f5, 0x3d9f49f5}},
		{math.Nextafter32(1, 0), -0.7, [9]uint32{0x00000000, 0xbd9f49f5, 0xbe1f49f5, 0xbe6eeef1, 0xbe9f49f5, 0xbec71c74, 0xbeeeeef1, 0xbf0b60b7, 0xbf1f49f5}},
		{0.9, 1e-38, [9]uint32{0x00000000, 0x000d7179, 0x001ae2f2, 0x0028546b, 0x0035c5e4, 0x0043375e, 0x0050a8d6, 0x005e1a50, 0x006b8bc9}},
		{1e-40, 3, [9]uint32{0x00000000, 0x402aaaab, 0x40155556, 0x40000000, 0x3fd55556, 0x3faaaaab, 0x3f800000, 0x3f2aaaab, 0x3eaaaaab}},
	} {
		for at := range int64(9) {
			x := newString(9.5, 0, 1)
			x.Loop.At = at
			y, code := impl.PluckString(x, c.place, c.force)
			want(t, "PluckString", code, impl.OK)
			var samples []float32
			for _, b := range c.bits {
				samples = append(samples, math.Float32frombits(b))
			}
			wantOnlyAdded(t, "PluckString", y, x, samples)
		}
	}
}

func TestP6PlucksOfSomeNumbers(t *testing.T) {
	x := newString(4.5, 0, 1)
	for _, c := range []struct {
		name         string
		before       []float32
		place, force float32
		after        []float32
	}{
		{"no force", []float32{minusZero, 1, nan, leastSample}, 0.5, 0, []float32{0, 1, nan, leastSample}},
		{"a force of -0", []float32{minusZero, minusZero, 0, -infinite}, 0.5, minusZero, []float32{minusZero, minusZero, 0, -infinite}},
		{"a sum is not flushed", []float32{0, 0, leastSample, -leastNormal}, 0.5, leastNormal, []float32{0, leastNormal / 2, leastNormal + leastSample, -leastNormal / 2}},
		{"too great a sum", []float32{1, greatest, greatest, -greatest}, 0.5, greatest, []float32{1, infinite, infinite, -greatest / 2}},
		{"too great a sum below 0", []float32{1, greatest, -greatest, -greatest}, 0.5, -greatest, []float32{1, greatest / 2, -infinite, -infinite}},
		{"samples that are infinite", []float32{infinite, -infinite, infinite, nan}, 0.5, -greatest, []float32{infinite, -infinite, infinite, nan}},
		{"at the first sample", []float32{0, 0, 0, 0}, 0, 4, []float32{4, 3, 2, 1}},
	} {
		for at := range 4 {
			moved := slices.Concat(c.before[4-at:], c.before[:4-at])
			y := withRing(x, int64(at), moved...)
			z, code := impl.PluckString(y, c.place, c.force)
			want(t, c.name, code, impl.OK)
			wantOnlyAdded(t, c.name, z, y, c.after)
		}
	}
}

// hammers are finite; all but the last one are short.
func hammers() [][]float32 {
	return [][]float32{nil, {}, {1}, {minusZero, leastSample, -0.5}, {greatest, greatest}, {-greatest, 0.1, 0.2, 0.3, leastNormal, 7}, make([]float32, 2000)}
}

func TestP6HammersAreAdded(t *testing.T) {
	for _, x := range validStrings() {
		for _, place := range places {
			for _, hammer := range hammers() {
				samples := fromOldest(x.Loop)
				k := int(math.Floor(float64(proOf(place, float32(len(samples))))))
				for i, a := range hammer {
					if k+i < len(samples) {
						samples[k+i] = sumOf(samples[k+i], a)
					}
				}
				y, code := impl.StrikeString(x, place, hammer)
				want(t, "StrikeString", code, impl.OK)
				wantOnlyAdded(t, "StrikeString", y, x, samples)
			}
		}
	}
}

func TestP6HammersOfSomeNumbers(t *testing.T) {
	x := newString(4.5, 0, 1)
	for _, c := range []struct {
		before []float32
		place  float32
		hammer []float32
		after  []float32
	}{
		{[]float32{minusZero, minusZero, minusZero, minusZero}, 0.3, []float32{0, minusZero}, []float32{minusZero, 0, minusZero, minusZero}},
		{[]float32{1, 2, 3, 4}, 0.75, []float32{10, 20, 30}, []float32{1, 2, 3, 14}},
		{[]float32{1, 2, 3, 4}, math.Nextafter32(0.75, 0), []float32{10, 20, 30}, []float32{1, 2, 13, 24}},
		{[]float32{1, 2, 3, 4}, math.Nextafter32(1, 0), []float32{10, 20}, []float32{1, 2, 3, 14}},
		{[]float32{1, 2, 3, 4}, 0, []float32{10, 20, 30, 40, 50}, []float32{11, 22, 33, 44}},
		{[]float32{leastNormal, greatest, -greatest, nan}, 0, []float32{-leastSample, greatest, -greatest, 1}, []float32{mostSub, infinite, -infinite, nan}},
	} {
		for at := range 4 {
			y := withRing(x, int64(at), slices.Concat(c.before[4-at:], c.before[:4-at])...)
			z, code := impl.StrikeString(y, c.place, c.hammer)
			want(t, "StrikeString", code, impl.OK)
			wantOnlyAdded(t, "StrikeString", z, y, c.after)
		}
	}
}

func TestP6NoiseIsAdded(t *testing.T) {
	for i, x := range validStrings() {
		for j, force := range forces {
			first := uint32(i*j) * 2654435761
			seed := first
			samples := fromOldest(x.Loop)
			for i := range samples {
				var a float32
				a, seed = impl.NextNoise(seed)
				samples[i] = sumOf(samples[i], proOf(force, a))
			}
			y, next, code := impl.NoiseString(x, force, first)
			want(t, "NoiseString", code, impl.OK)
			want(t, "the seed behind it", next, seed)
			wantOnlyAdded(t, "NoiseString", y, x, samples)
		}
	}
}

func TestP6PlucksOutOfRange(t *testing.T) {
	for _, x := range []impl.String{newString(3, 0, 1), newString(1024, 0.5, 1), withRing(newString(3, 0, 1), 0, nan)} {
		for _, place := range noPlaces {
			wantNoPluck(t, x, place, 1, impl.ErrRange)
			wantNoStrike(t, x, place, []float32{1}, impl.ErrRange)
			wantNoStrike(t, x, place, nil, impl.ErrRange)
			wantNoPluck(t, x, place, nan, impl.ErrRange)
		}
		for _, force := range noForces {
			wantNoPluck(t, x, 0.5, force, impl.ErrRange)
			wantNoNoise(t, x, force, impl.ErrRange)
			wantNoStrike(t, x, 0.5, []float32{force}, impl.ErrRange)
			// Also where the ring has no sample any more for this number.
			wantNoStrike(t, x, 0.9, append(make([]float32, 2000), force), impl.ErrRange)
		}
	}
	for _, x := range invalidStrings() {
		for _, place := range []float32{0.5, 1, nan} {
			for _, force := range []float32{1, nan} {
				wantNoPluck(t, x, place, force, impl.ErrInvalid)
				wantNoStrike(t, x, place, []float32{force}, impl.ErrInvalid)
				wantNoNoise(t, x, force, impl.ErrInvalid)
			}
		}
	}
}

func wantNoPluck(t *testing.T, x impl.String, place, force float32, expected int64) {
	t.Helper()
	y, code := impl.PluckString(x, place, force)
	want(t, "PluckString", code, expected)
	wantString(t, "with an error", y, impl.String{})
}

func wantNoStrike(t *testing.T, x impl.String, place float32, hammer []float32, expected int64) {
	t.Helper()
	y, code := impl.StrikeString(x, place, hammer)
	want(t, "StrikeString", code, expected)
	wantString(t, "with an error", y, impl.String{})
}

func wantNoNoise(t *testing.T, x impl.String, force float32, expected int64) {
	t.Helper()
	y, seed, code := impl.NoiseString(x, force, 5)
	want(t, "NoiseString", code, expected)
	want(t, "the seed with an error", seed, 0)
	wantString(t, "with an error", y, impl.String{})
}
