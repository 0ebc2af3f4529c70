package tests

import (
	"math"
	"testing"

	"loop.example/g01173/impl"
)

// spreadOf is SpreadFour of the document, written down once more.
func spreadOf(x [4]float32, by float32) [4]float32 {
	share := quoOf(proOf(by, sumOf(sumOf(sumOf(x[0], x[1]), x[2]), x[3])), 2)
	for i, a := range x {
		x[i] = difOf(a, share)
	}
	return x
}

func fourOf(list []float32) [4]float32 {
	return [4]float32(list)
}

func wantFour(t *testing.T, name string, got, expected [4]float32) {
	t.Helper()
	wantSamples(t, name, got[:], expected[:])
}

func TestP12MixingFour(t *testing.T) {
	for _, c := range []struct{ x, mixed [4]float32 }{
		{[4]float32{0, 0, 0, 0}, [4]float32{0, 0, 0, 0}}, {[4]float32{1, 0, 0, 0}, [4]float32{0.5, 0.5, 0.5, 0.5}}, {[4]float32{0, 1, 0, 0}, [4]float32{0.5, -0.5, 0.5, -0.5}},
		{[4]float32{0, 0, 1, 0}, [4]float32{0.5, 0.5, -0.5, -0.5}}, {[4]float32{0, 0, 0, 1}, [4]float32{0.5, -0.5, -0.5, 0.5}}, {[4]float32{1, 2, 3, 4}, [4]float32{5, -1, -2, 0}}, {[4]float32{1, 2, -5, 9}, [4]float32{3.5, -7.5, -0.5, 6.5}},
		// Other orders of these sums are other numbers.
		{[4]float32{1e8, 1, -1e8, 1}, [4]float32{0, 0, 1e8, 1e8}}, {[4]float32{1e8, 1, 1, -1e8}, [4]float32{0, 1e8, 1e8, 0}}, {[4]float32{1, 1, 1e8, -1e8}, [4]float32{1, 1e8, 1, -1e8}},
		{[4]float32{greatest, greatest, 0, 0}, [4]float32{infinite, 0, infinite, 0}}, {[4]float32{greatest, greatest, -greatest, -greatest}, [4]float32{nan, 0, infinite, 0}}, {[4]float32{greatest, 0, greatest, 0}, [4]float32{infinite, infinite, 0, 0}}, {[4]float32{greatest, 0, 0, 0}, [4]float32{greatest / 2, greatest / 2, greatest / 2, greatest / 2}},
		{[4]float32{infinite, 1, 1, 1}, [4]float32{infinite, infinite, infinite, infinite}}, {[4]float32{1, 1, -infinite, 1}, [4]float32{-infinite, -infinite, infinite, infinite}}, {[4]float32{1, nan, 1, 1}, [4]float32{nan, nan, nan, nan}}, {[4]float32{1, 1, 1, otherNaN}, [4]float32{nan, nan, nan, nan}},
		{[4]float32{leastSample, 0, 0, 0}, [4]float32{0, 0, 0, 0}}, {[4]float32{0, -leastSample, 0, 0}, [4]float32{minusZero, 0, minusZero, 0}}, {[4]float32{leastSample, 2 * leastSample, 0, 0}, [4]float32{2 * leastSample, minusZero, 2 * leastSample, minusZero}}, {[4]float32{leastNormal, 0, 0, 0}, [4]float32{leastNormal / 2, leastNormal / 2, leastNormal / 2, leastNormal / 2}},
		{[4]float32{minusZero, minusZero, minusZero, minusZero}, [4]float32{minusZero, 0, 0, 0}}, {[4]float32{minusZero, 0, minusZero, 0}, [4]float32{0, minusZero, 0, 0}}, {[4]float32{minusZero, minusZero, 0, 0}, [4]float32{0, 0, minusZero, 0}}, {[4]float32{minusZero, 0, 0, minusZero}, [4]float32{0, 0, 0, minusZero}},
	} {
		wantFour(t, "MixFour", impl.MixFour(c.x), c.mixed)
	}
}

func TestP12MixingAndSpreadingAllKinds(t *testing.T) {
	kinds := awkward()
	n := len(kinds)
	for i := range n * n * n * n {
		x := [4]float32{kinds[i%n], kinds[i/n%n], kinds[i/n/n%n], kinds[i/n/n/n]}
		by := kinds[(i*7+i/n)%n]
		if got := impl.MixFour(x); !sameFour(got, mixOf(x)) {
			t.Fatalf("MixFour %v: got %v, want %v", x, got, mixOf(x))
		}
		if got := impl.SpreadFour(x, by); !sameFour(got, spreadOf(x, by)) {
			t.Fatalf("SpreadFour %v by %v: got %v, want %v", x, by, got, spreadOf(x, by))
		}
	}
	random := newRandom()
	for range 5000 {
		for _, b := range []impl.Block{loudBlock(random), anyBlock(random)} {
			for i := range 3 {
				x := fourOf(b[4*i : 4*i+4])
				wantFour(t, "MixFour", impl.MixFour(x), mixOf(x))
				for _, by := range b[12:] {
					wantFour(t, "SpreadFour", impl.SpreadFour(x, by), spreadOf(x, by))
				}
			}
		}
	}
}

func sameFour(x, y [4]float32) bool {
	for i, a := range x {
		if !sameBits(a, y[i]) {
			return false
		}
	}
	return true
}

func energyOfFour(x [4]float32) float64 {
	var sum float64
	for _, a := range x {
		sum += float64(a) * float64(a)
	}
	return sum
}

func TestP12MixingLeadsBack(t *testing.T) {
	random := newRandom()
	for range 20000 {
		var x, whole [4]float32
		for i := range x {
			x[i] = float32(2*random.Float64() - 1)
			whole[i] = float32(random.IntN(2000000) - 1000000)
		}
		wantFour(t, "twice", impl.MixFour(impl.MixFour(whole)), whole)
		once := impl.MixFour(x)
		for i, a := range impl.MixFour(once) {
			if math.Abs(float64(a)-float64(x[i])) > 5e-7 {
				t.Errorf("twice mixed, %v is %v at %d", x, a, i)
			}
		}
		if before, behind := energyOfFour(x), energyOfFour(once); math.Abs(before-behind) > 1e-6*before {
			t.Errorf("%v has the energy %v, and mixed %v", x, before, behind)
		}
	}
}

func TestP12SpreadingFour(t *testing.T) {
	for _, c := range []struct {
		x      [4]float32
		by     float32
		spread [4]float32
	}{
		{[4]float32{1, 1, 1, 1}, 1, [4]float32{-1, -1, -1, -1}}, {[4]float32{1, 2, 3, 4}, 0.5, [4]float32{-1.5, -0.5, 0.5, 1.5}}, {[4]float32{1, 2, 3, 4}, 1, [4]float32{-4, -3, -2, -1}}, {[4]float32{1, 2, 3, 4}, -1, [4]float32{6, 7, 8, 9}}, {[4]float32{1, 2, 3, 4}, 0, [4]float32{1, 2, 3, 4}}, {[4]float32{8, 0, 0, 0}, 0.25, [4]float32{7, -1, -1, -1}},
		// Other orders of the sum, or the quotient before the product, are other numbers.
		{[4]float32{1e8, -1e8, 1, 0}, 1, [4]float32{1e8, -1e8, 0.5, -0.5}}, {[4]float32{1, 1e8, -1e8, 0}, 1, [4]float32{1, 1e8, -1e8, 0}}, {[4]float32{1, 1e8, 0, -1e8}, 1, [4]float32{1, 1e8, 0, -1e8}}, {[4]float32{1e8, 1, -1e8, 1}, 2, [4]float32{1e8, 0, -1e8, 0}},
		{[4]float32{greatest / 2, greatest / 2, 0, 0}, 2, [4]float32{-infinite, -infinite, -infinite, -infinite}}, {[4]float32{greatest / 2, greatest / 2, 0, 0}, 1, [4]float32{0, 0, -greatest / 2, -greatest / 2}}, {[4]float32{greatest, greatest, 0, 0}, 0, [4]float32{nan, nan, nan, nan}}, {[4]float32{greatest, greatest, -greatest, 0}, 1, [4]float32{-infinite, -infinite, -infinite, -infinite}},
		{[4]float32{infinite, 1, 1, 1}, 1, [4]float32{nan, -infinite, -infinite, -infinite}}, {[4]float32{1, 1, 1, nan}, 1, [4]float32{nan, nan, nan, nan}}, {[4]float32{1, 1, 1, 1}, nan, [4]float32{nan, nan, nan, nan}}, {[4]float32{1, 1, 1, -3}, infinite, [4]float32{nan, nan, nan, nan}}, {[4]float32{1, 1, 1, 1}, infinite, [4]float32{-infinite, -infinite, -infinite, -infinite}},
		{[4]float32{leastSample, 0, 0, 0}, 1, [4]float32{leastSample, 0, 0, 0}}, {[4]float32{leastSample, 0, 0, 0}, 3, [4]float32{-leastSample, -2 * leastSample, -2 * leastSample, -2 * leastSample}}, {[4]float32{7 * leastSample, 0, 0, 0}, 0.5, [4]float32{5 * leastSample, -2 * leastSample, -2 * leastSample, -2 * leastSample}}, {[4]float32{2 * leastSample, 0, 0, 0}, 0.5, [4]float32{2 * leastSample, 0, 0, 0}}, {[4]float32{leastNormal, 0, 0, 0}, 0.5, [4]float32{leastNormal * 0.75, -leastNormal / 4, -leastNormal / 4, -leastNormal / 4}},
		{[4]float32{minusZero, minusZero, 0, 0}, 1, [4]float32{minusZero, minusZero, 0, 0}}, {[4]float32{minusZero, minusZero, minusZero, minusZero}, 1, [4]float32{0, 0, 0, 0}}, {[4]float32{minusZero, 0, 0, 0}, -1, [4]float32{0, 0, 0, 0}},
	} {
		wantFour(t, "SpreadFour", impl.SpreadFour(c.x, c.by), c.spread)
	}
}

func TestP12MixingAndSpreadingThatWereCalculated(t *testing.T) {
	noise, _ := impl.NoiseBlock(11)
	for i, c := range []struct{ mixed, less, more []uint32 }{
		{[]uint32{0xbf13c278, 0x3e978c54, 0xbf238180, 0xbc402680}, []uint32{0xbd7d0ad0, 0xbeb12c7a, 0x3f16b16d, 0x3e8fd552}, []uint32{0xbf9baace, 0xbfc00d96, 0xbf10d382, 0xbf5f9a46}},
		{[]uint32{0x3db85108, 0xbf748485, 0xbd51e5d0, 0x3ef2e132}, []uint32{0xbe916989, 0x3e497c9e, 0xbf350701, 0x3f38ee1d}, []uint32{0xbdd50416, 0x3ec0e6d2, 0xbf06f2bf, 0x3f67025f}},
		{[]uint32{0x3f4aca45, 0xbe8ff29e, 0x3f34ae23, 0xbe3a2cf4}, []uint32{0xbd17a0f0, 0x3eda14fa, 0xbf0f9cf5, 0xbeec5dc6}, []uint32{0x3fc60d3d, 0x4000a7c2, 0x3f82fbca, 0x3f8fb2d3}},
		{[]uint32{0x3f4f0504, 0xbf341314, 0x3ee8d27c, 0x3ddf1330}, []uint32{0xbe6d2c7c, 0x3eb9cb1e, 0xbf4b96c3, 0x3c8bd6e0}, []uint32{0x3fb15f74, 0x3ffd77cb, 0x3f527344, 0x3fd1345f}},
	} {
		x := fourOf(noise[4*i : 4*i+4])
		wantFour(t, "MixFour", impl.MixFour(x), fourOf(samplesOfBits(c.mixed...)))
		wantFour(t, "SpreadFour", impl.SpreadFour(x, 0.7), fourOf(samplesOfBits(c.less...)))
		wantFour(t, "SpreadFour", impl.SpreadFour(x, -1.3), fourOf(samplesOfBits(c.more...)))
	}
}

func TestP12GainsThatWereCalculated(t *testing.T) {
	for _, c := range []struct {
		length int64
		tail   float32
		gain   uint32
	}{
		{1, 1, 0}, {1, 6.9, 0}, {1, 7, 0x3f0005b1}, {2, 14, 0x3f0005b1}, {1, 10, 0x3f0c3d45}, {1, 1000000, 0x3f7fff8c}, {7, 123.456, 0x3f2f5e37}, {13, 100, 0x3f0154dd}, {100, 69077.55, 0x3f7d73eb}, {100, 691, 0x3f000001},
		{353, 48000, 0x3f735349}, {1000, 999999.9, 0x3f7e3cdb}, {impl.MaxRing, 1, 0}, {impl.MaxRing, 7074, 0x3f000000}, {impl.MaxRing, 20000, 0x3f357849}, {impl.MaxRing, 1000000, 0x3f7e3211},
		// Here e is the nearest to 1, above it and below it.
		{1, math.Float32frombits(0x40dd0c54), 0}, {1, math.Float32frombits(0x40dd0c55), 0x3f000000}, {2, math.Float32frombits(0x415d0c54), 0}, {2, math.Float32frombits(0x415d0c55), 0x3f000000}, {3, math.Float32frombits(0x41a5c93f), 0}, {3, math.Float32frombits(0x41a5c940), 0x3f000000},
		{100, math.Float32frombits(0x442cb1a1), 0}, {100, math.Float32frombits(0x442cb1a2), 0x3f000000}, {839, math.Float32frombits(0x45b51cd9), 0}, {839, math.Float32frombits(0x45b51cda), 0x3f000000}, {impl.MaxRing, math.Float32frombits(0x45dd0c54), 0}, {impl.MaxRing, math.Float32frombits(0x45dd0c55), 0x3f000000},
		// Here another order, or narrow numbers in between, make another number.
		{88, math.Float32frombits(0x4445aed9), 0x3f06d82e}, {1018, math.Float32frombits(0x46057a63), 0x3f040081}, {113, math.Float32frombits(0x4472955f), 0x3f04e528}, {658, math.Float32frombits(0x45e927bd), 0x3f138c33}, {527, math.Float32frombits(0x45a8b317), 0x3f0d9309}, {947, math.Float32frombits(0x469fc279), 0x3f3b3487}, {36, math.Float32frombits(0x442f23f7), 0x3f354188}, {914, math.Float32frombits(0x48b424d9), 0x3f7ba80f}, {832, math.Float32frombits(0x4702906f), 0x3f57c40f},
	} {
		gain, code := impl.GainFor(c.length, c.tail)
		want(t, "GainFor", code, impl.OK)
		wantSample(t, "GainFor", gain, math.Float32frombits(c.gain))
	}
}

func TestP12GainsFallToAThousandth(t *testing.T) {
	random := newRandom()
	for range 2000 {
		length, tail := 1+random.Int64N(impl.MaxRing), float32(1+999999*random.Float64())
		gain, code := impl.GainFor(length, tail)
		want(t, "GainFor", code, impl.OK)
		e := 6.907755 * float64(length) / float64(tail)
		want(t, "GainFor", gain, pick(e > 1, 0, float32(1-e+float64(e*e)/2)))
		// The next number of the series that makes the power of e is e * e * e / 6.
		if fall := math.Exp(-e); e < 1 && math.Abs(float64(gain)-fall) > e*e*e/6+1e-7 {
			t.Errorf("GainFor %d, %v: got %v, want %v, nearly", length, tail, gain, fall)
		}
	}
}

func TestP12GainsOutOfRange(t *testing.T) {
	tails := []float32{math.Nextafter32(1, 0), 0, minusZero, leastSample, -1, -100, math.Nextafter32(1000000, 2000000), 1e7, greatest, -greatest, infinite, -infinite, nan, otherNaN}
	for _, n := range []int64{0, -1, impl.MaxRing + 1, 1 << 32, 1<<32 + 1, math.MaxInt64, math.MinInt64} {
		wantNoGain(t, n, 1)
		wantNoGain(t, n, 1000000)
		for _, tail := range tails {
			wantNoGain(t, n, tail)
			wantNoGain(t, 1, tail)
			wantNoGain(t, impl.MaxRing, tail)
		}
	}
}

func wantNoGain(t *testing.T, length int64, tail float32) {
	t.Helper()
	gain, code := impl.GainFor(length, tail)
	if code != impl.ErrRange {
		t.Errorf("GainFor %d, %v: got %d, want %d", length, tail, code, impl.ErrRange)
	}
	wantSample(t, "with an error", gain, 0)
}
