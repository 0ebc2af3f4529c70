package tests

import (
	"math"
	"testing"

	"loop.example/g01173/impl"
)

func TestP10NewBows(t *testing.T) {
	almost := math.Nextafter32(1, 0)
	for _, c := range []struct {
		period            int64
		place             float32
		bridge            int
		keep, loss, slope float32
	}{
		{10, 0.25, 2, 0, 1, 0}, {10, 0.29, 2, 0.5, 0, -3}, {10, 0.3, 3, 0.5, 0, 3}, {2, 0, 1, almost, 0.5, greatest}, {2, 1, 1, minusZero, minusZero, minusZero}, {2, 0.5, 1, 0, 1, -greatest},
		{10, 0, 1, 0.1, 1, 1}, {10, minusZero, 1, 0.1, 1, 1}, {10, leastSample, 1, leastSample, leastSample, leastSample}, {10, 0.05, 1, 0.1, 1, 1}, {10, 0.1, 1, 0.1, 1, 1}, {10, 0.2, 2, 0.1, 1, 1},
		{10, 0.9, 9, 0.1, 1, 1}, {10, almost, 9, 0.1, 1, 1}, {10, 1, 9, 0.1, 1, 1}, {3, 0.5, 1, 0, 1, 0}, {3, 0.7, 2, 0, 1, 0}, {3, 1, 2, 0, 1, 0},
		{impl.MaxRing, 0, 1, 0, 1, 0}, {impl.MaxRing, 0.5, 512, 0, 1, 0}, {impl.MaxRing, 1, 1023, 0, 1, 0}, {impl.MaxRing, almost, 1023, 0, 1, 0}, {impl.MaxRing, math.Nextafter32(0.5, 0), 511, 0, 1, 0},
		// The product is rounded up to a whole number.
		{10, math.Float32frombits(0x3f333333), 7, 0, 1, 0}, {100, math.Float32frombits(0x3f147ae1), 58, 0, 1, 0},
	} {
		x, code := impl.NewBow(c.period, c.place, c.keep, c.loss, c.slope)
		want(t, "NewBow", code, impl.OK)
		wantBow(t, "NewBow", x, impl.Bow{
			Neck: impl.Ring{Samples: make([]float32, int(c.period)-c.bridge)}, Bridge: impl.Ring{Samples: make([]float32, c.bridge)},
			Damp: impl.Filter{Kind: impl.FkOnePole, C: [3]float32{difOf(1, c.keep), c.keep}}, Slope: c.slope, Loss: c.loss,
		})
		want(t, "ValidBow", impl.ValidBow(x), true)
		silent, code := impl.IsSilentBow(x)
		want(t, "IsSilentBow", code, impl.OK)
		want(t, "IsSilentBow", silent, true)
	}
}

func TestP10RingsOfNewBows(t *testing.T) {
	random := newRandom()
	for range 2000 {
		period, place := 2+random.Int64N(impl.MaxRing-1), float32(random.Float64())
		n := min(max(int(math.Floor(float64(proOf(float32(period), place)))), 1), int(period-1))
		x, code := impl.NewBow(period, place, 0, 1, 0)
		want(t, "NewBow", code, impl.OK)
		want(t, "at the bridge", len(x.Bridge.Samples), n)
		want(t, "at the neck", len(x.Neck.Samples), int(period)-n)
	}
}

func wantNoBow(t *testing.T, period int64, place, keep, loss, slope float32) {
	t.Helper()
	x, code := impl.NewBow(period, place, keep, loss, slope)
	if code != impl.ErrRange {
		t.Errorf("NewBow %d, %v, %v, %v, %v: got %d, want %d", period, place, keep, loss, slope, code, impl.ErrRange)
	}
	wantBow(t, "with an error", x, impl.Bow{})
}

func TestP10BowsOutOfRange(t *testing.T) {
	for _, n := range []int64{1, 0, -1, -2, impl.MaxRing + 1, 1 << 32, 1<<32 + 2, math.MaxInt64, math.MinInt64} {
		wantNoBow(t, n, 0.5, 0, 1, 0)
		wantNoBow(t, n, nan, 2, -1, infinite)
	}
	above := math.Nextafter32(1, 2)
	for _, a := range []float32{-leastSample, -0.5, above, 1.5, greatest, -greatest, infinite, -infinite, nan, otherNaN} {
		wantNoBow(t, 10, a, 0, 1, 0)
		wantNoBow(t, 10, 0.5, a, 1, 0)
		wantNoBow(t, 10, 0.5, 0, a, 0)
		wantNoBow(t, 10, a, a, a, nan)
	}
	wantNoBow(t, 10, 0.5, 1, 1, 0)
	for _, a := range noForces {
		wantNoBow(t, 10, 0.5, 0, 1, a)
	}
}

// under has rings of one sample each, and a filter that changes nothing.
func under(neck, bridge, loss, slope float32) impl.Bow {
	x := newBow(2, 0.5, 0, 1, slope)
	x.Neck.Samples[0], x.Bridge.Samples[0], x.Loss = neck, bridge, loss
	return x
}

func TestP10WhatComesFromTheBow(t *testing.T) {
	tiny := float32(math.Ldexp(1, -24))
	for _, c := range []struct{ neck, bridge, loss, slope, speed, toNeck, toBridge float32 }{
		{0, 0, 1, 0, 0.25, 0.25, 0.25}, {1, 0, 1, 0, 0, 1, 0}, {0, 1, 1, 0, 0, 0, 1}, {0, 1, 0.5, 0, 0, 0, 0.5}, {1, 2, 0.5, 0, 3, 4, 4}, {1, 2, -0.5, 0, 3, 4, 2}, {1, 2, 0, 0, 0, 1, 0},
		{0, 0, 1, 1, 1.25, 0.078125, 0.078125}, {0, 0, 1, -1, -1.25, -0.078125, -0.078125}, {0.25, 0, 1, 1, 1, 0.078125, -0.171875}, {0, 0.25, 1, 1, 1, -0.171875, 0.078125},
		// Each of these tells in which order the sum and the difference are made.
		{-tiny, 1, -1, 0, 1, 1, tiny}, {-1, tiny, -1, 0, 1, tiny, 1}, {0, 1, -1, 0, tiny, tiny, -1 + tiny},
		{greatest, greatest, 1, 0, 0, 0, 0}, {-greatest, greatest, -1, 1, greatest, 0, 0}, {greatest, -greatest, 1, 0, 1, greatest, -greatest}, {0, 0, 1, 0, greatest, greatest, greatest}, {0, -greatest, 1, 0, -greatest, 0, 0},
		{0, 0, 1, 0, nan, 0, 0}, {1, 1, 1, 1, nan, 0, 0}, {0, 0, 1, 0, infinite, 0, 0}, {0, 0, 1, 1, infinite, 0, 0}, {1, 1, 1, 1, -infinite, 0, 0},
		{0, 0, 1, 0, leastSample, 0, 0}, {0, 0, 1, 0, -mostSub, 0, 0}, {0, 0, 1, 0, leastNormal, leastNormal, leastNormal}, {0, 0, 1, 0, minusZero, 0, 0}, {minusZero, minusZero, 1, 0, minusZero, 0, 0}, {minusZero, minusZero, -1, 0, 0, 0, 0},
		// The samples may be subnormal, but what comes is not.
		{leastSample, mostSub, 1, 0, 0, 0, 0}, {leastSample, mostSub, 1, 0, leastNormal, leastNormal + leastSample, 2*leastNormal - leastSample}, {leastNormal, leastNormal, 0.5, 0, 0, leastNormal, 0},
		{0, 0, 1, 4294967296, 1, 0, 0}, {1, 0, 1, greatest, 5, 0, -1}, {0, 1, 1, greatest, 5, -1, 0}, {0, 0.5, greatest, 0, 0, 0, greatest / 2}, {0, 2, greatest, 0, 0, 0, 0},
	} {
		x := under(c.neck, c.bridge, c.loss, c.slope)
		y, made, code := impl.StepBow(x, c.speed)
		want(t, "StepBow", code, impl.OK)
		wantSample(t, "it makes", made, c.bridge)
		wantSamples(t, "what comes", []float32{y.Neck.Samples[0], y.Bridge.Samples[0]}, []float32{c.toNeck, c.toBridge})
		expected, _ := stepOfBow(x, c.speed)
		wantBow(t, "StepBow", y, expected)
	}
}

func TestP10WhatIsDamped(t *testing.T) {
	for _, c := range []struct{ keep, state, bridge, e float32 }{
		{0, 0, 2, 2}, {0, 5, 2, 2}, {0.25, 0, 2, 1.5}, {0.25, 2, 2, 2}, {0.25, -2, 2, 1}, {0.5, minusZero, minusZero, minusZero}, {0.5, 0, leastNormal, leastNormal / 2}, {0, 0, leastSample, leastSample}, {3, greatest, -greatest, infinite}, {3, -greatest, greatest, -infinite},
	} {
		x := under(0, c.bridge, 1, 0)
		x.Damp = impl.OnePole(c.keep)
		x.Damp.S[0] = c.state
		y, made, code := impl.StepBow(x, 0)
		want(t, "StepBow", code, impl.OK)
		wantSample(t, "it makes", made, c.bridge)
		wantSample(t, "the state", y.Damp.S[0], keptOf(c.e))
		wantSamples(t, "what comes", []float32{y.Neck.Samples[0], y.Bridge.Samples[0]}, []float32{0, keptOf(c.e)})
	}
}

func TestP10BowsArePulled(t *testing.T) {
	for i, x := range bows().valid() {
		force := append(forces, 0.25, -1e38)[i%(len(forces)+2)]
		expected := bows().copied(x)
		for j, a := range expected.Bridge.Samples {
			expected.Bridge.Samples[j] = keptOf(sumOf(a, force))
		}
		y, code := impl.PullBow(x, force)
		want(t, "PullBow", code, impl.OK)
		wantBow(t, "PullBow", y, expected)
	}
	for _, c := range []struct{ sample, force, pulled float32 }{
		{0, 1, 1}, {1, 0.5, 1.5}, {1, -1, 0}, {minusZero, minusZero, 0}, {minusZero, 0, 0}, {leastSample, 0, 0}, {0, mostSub, 0}, {0, -leastSample, 0}, {mostSub, leastSample, leastNormal}, {leastNormal, -leastSample, 0}, {1, leastSample, 1},
		{greatest, greatest, 0}, {-greatest, -greatest, 0}, {greatest, -greatest, 0}, {greatest, 1, greatest}, {0, greatest, greatest},
	} {
		x := newBow(8, 0.4, 0.5, 1, 1)
		for at := range int64(3) {
			x.Bridge = impl.Ring{Samples: []float32{c.sample, 7, c.sample}, At: at}
			y, code := impl.PullBow(x, c.force)
			want(t, "PullBow", code, impl.OK)
			wantRing(t, "PullBow", y.Bridge, impl.Ring{Samples: []float32{c.pulled, keptOf(sumOf(7, c.force)), c.pulled}, At: at})
			wantRing(t, "the neck", y.Neck, x.Neck)
		}
	}
}

func wantNoPull(t *testing.T, x impl.Bow, force float32, expected int64) {
	t.Helper()
	y, code := impl.PullBow(x, force)
	want(t, "PullBow", code, expected)
	wantBow(t, "with an error", y, impl.Bow{})
}

func TestP10BowsThatAreNotPulled(t *testing.T) {
	for _, force := range noForces {
		wantNoPull(t, newBow(10, 0.5, 0, 1, 0), force, impl.ErrRange)
		for _, x := range bows().invalid() {
			wantNoPull(t, x, force, impl.ErrInvalid)
			wantNoPull(t, x, 1, impl.ErrInvalid)
		}
	}
}
