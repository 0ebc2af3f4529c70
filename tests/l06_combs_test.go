package tests

import (
	"math"
	"testing"

	"loop.example/g01173/impl"
)

func TestP12NewCombs(t *testing.T) {
	for _, n := range []int64{1, 2, 3, 5, impl.MaxRing - 1, impl.MaxRing} {
		for _, gain := range []float32{0, minusZero, 0.5, -0.5, leastSample, -leastSample, math.Nextafter32(1, 0), math.Nextafter32(-1, 0)} {
			c, code := impl.NewComb(n, gain)
			want(t, "NewComb", code, impl.OK)
			wantComb(t, "NewComb", c, impl.Comb{Ring: impl.Ring{Samples: make([]float32, n)}, Gain: gain})
			want(t, "ValidComb", impl.ValidComb(c), true)
		}
	}
}

func wantNoComb(t *testing.T, n int64, gain float32) {
	t.Helper()
	c, code := impl.NewComb(n, gain)
	if code != impl.ErrRange {
		t.Errorf("NewComb %d, %v: got %d, want %d", n, gain, code, impl.ErrRange)
	}
	wantComb(t, "with an error", c, impl.Comb{})
}

func TestP12CombsOutOfRange(t *testing.T) {
	gains := []float32{1, -1, math.Nextafter32(1, 2), math.Nextafter32(-1, -2), 1.5, -2, greatest, -greatest, infinite, -infinite, nan, otherNaN}
	for _, n := range []int64{0, -1, impl.MaxRing + 1, 1 << 32, 1<<32 + 1, math.MaxInt64, math.MinInt64} {
		wantNoComb(t, n, 0.5)
		for _, gain := range gains {
			wantNoComb(t, n, gain)
			wantNoComb(t, 3, gain)
		}
	}
}

func TestP12ValidCombs(t *testing.T) {
	for i, c := range validCombs(newRandom()) {
		if !impl.ValidComb(c) {
			t.Errorf("comb %d is not valid", i)
		}
	}
	for i, c := range invalidCombs() {
		if impl.ValidComb(c) {
			t.Errorf("comb %d is valid", i)
		}
		for _, in := range []float32{0.5, nan} {
			d, made, code := impl.StepComb(c, in)
			want(t, "StepComb", code, impl.ErrInvalid)
			wantSample(t, "StepComb", made, 0)
			wantComb(t, "StepComb", d, impl.Comb{})
		}
	}
}

func TestP12StepsOfCombsAreThoseOfTheDocument(t *testing.T) {
	random := newRandom()
	noise := loudBlock(random)
	ins := append(append(awkward(), noise[:]...), math.MaxFloat32/2, 1e-30, 3e38)
	for _, c := range validCombs(random) {
		d := c
		for _, in := range ins {
			expected, made := stepOfComb(c, in)
			next, a, code := impl.StepComb(c, in)
			want(t, "StepComb", code, impl.OK)
			wantSample(t, "StepComb", a, made)
			wantComb(t, "StepComb", next, expected)

			expected, made = stepOfComb(d, in)
			d, a, code = impl.StepComb(d, in)
			want(t, "one after the other", code, impl.OK)
			wantSample(t, "one after the other", a, made)
			wantComb(t, "one after the other", d, expected)
		}
	}
}

func TestP12WhatComesIntoCombs(t *testing.T) {
	for _, c := range []struct{ oldest, gain, in, comes, made float32 }{
		{0, 0.5, 1, 1, -0.5}, {1, 0.5, 1, 1.5, 0.25}, {1, -0.5, 1, 0.5, 1.25}, {-2, 0.25, 3, 2.5, -2.625}, {4, 0, 3, 3, 4}, {2, 1, 0.5, 2.5, -0.5}, {2, 3, -1, 5, -13},
		// What comes is flushed, but what is made is of w as it was.
		{0, 0.5, mostSub, 0, math.Float32frombits(0x80400000)}, {0, 1, leastSample, 0, -leastSample}, {leastNormal, 0.5, 0, 0, math.Float32frombits(0x00600000)}, {leastNormal, -1, 0, -leastNormal, 0}, {leastNormal, 1, -leastSample, 0, leastSample}, {0, 0.5, leastNormal, leastNormal, math.Float32frombits(0x80400000)},
		{leastSample, 1, 0, 0, 0}, {mostSub, 1, leastSample, leastNormal, -leastSample},
		{0, 0.5, 0, 0, 0}, {0, 0.5, minusZero, 0, 0}, {minusZero, 0.5, 0, 0, minusZero}, {minusZero, 0.5, minusZero, 0, 0}, {minusZero, -0.5, 0, 0, 0}, {0, -0.5, minusZero, 0, 0}, {minusZero, 0, 1, 1, minusZero},
		{1, 0.5, nan, 0, nan}, {1, 0.5, otherNaN, 0, nan}, {1, 0.5, infinite, 0, -infinite}, {1, -0.5, infinite, 0, infinite}, {1, 0.5, -infinite, 0, infinite}, {1, 0, infinite, 0, nan},
		{greatest, 0.5, greatest, 0, -infinite}, {-greatest, 0.5, greatest, greatest / 2, -infinite}, {greatest, 2, 0, 0, -infinite}, {greatest, -2, greatest, 0, -infinite}, {greatest, greatest, 0, 0, -infinite}, {2, greatest, -greatest, 0, -infinite}, {0, 2, greatest, greatest, -infinite}, {greatest, 0.5, -greatest, -greatest / 2, infinite},
		// The sum and the product are rounded, both by themselves.
		{1, 1, math.Float32frombits(0x33800000), 1, 0}, {1, 1, math.Float32frombits(0x33800001), math.Float32frombits(0x3f800001), math.Float32frombits(0xb4000000)},
	} {
		for n := range int64(4) {
			for at := range n + 1 {
				x := impl.Comb{Ring: numbered(n+1, at), Gain: c.gain}
				x.Ring.Samples[at] = c.oldest
				expected := impl.Comb{Ring: numbered(n+1, at), Gain: c.gain}
				pushInto(&expected.Ring, c.comes)
				y, made, code := impl.StepComb(x, c.in)
				want(t, "StepComb", code, impl.OK)
				wantSample(t, "StepComb", made, c.made)
				wantComb(t, "StepComb", y, expected)
			}
		}
	}
}

// held is the energy that a comb holds back: what comes in less what it has made.
func held(c impl.Comb) float64 {
	var sum float64
	for _, a := range c.Ring.Samples {
		sum += float64(a) * float64(a)
	}
	return (1 - float64(c.Gain)*float64(c.Gain)) * sum
}

func TestP12CombsKeepTheEnergy(t *testing.T) {
	random := newRandom()
	for range 200 {
		c := impl.Comb{Ring: loudRing(random, 1+random.Int64N(20)), Gain: float32(1.98*random.Float64() - 0.99)}
		in, out := held(c), 0.0
		for range 300 {
			a := float32(2*random.Float64() - 1)
			next, made, code := impl.StepComb(c, a)
			want(t, "StepComb", code, impl.OK)
			in += float64(a) * float64(a)
			out += float64(made) * float64(made)
			c = next
			if math.Abs(out+held(c)-in) > 1e-5*in {
				t.Fatalf("gain %v: %v came, %v was made, and %v is held", c.Gain, in, out, held(c))
			}
		}
	}
}

func TestP12CombsGiveBackAllOfAPulse(t *testing.T) {
	for _, gain := range []float32{0, 0.5, -0.5, 0.9, -0.95} {
		for _, n := range []int64{1, 2, 7} {
			c, _ := impl.NewComb(n, gain)
			out := 0.0
			for i := range 3000 * n {
				next, made, _ := impl.StepComb(c, pick(i == 0, float32(1), 0))
				out += float64(made) * float64(made)
				c = next
			}
			want(t, "held", held(c), 0)
			if math.Abs(out-1) > 1e-5 {
				t.Errorf("gain %v, %d samples: got %v of 1", gain, n, out)
			}
		}
	}
}

func TestP12CombsMakeWhatWasCalculated(t *testing.T) {
	noise, _ := impl.NoiseBlock(9)
	for _, c := range []struct {
		n          int64
		gain       float32
		in         []float32
		made, ring []uint32
		at         int64
	}{
		{4, -0.7, rampOfTests(),
			[]uint32{0x3e0f5c29, 0x3e244444, 0x3e392c5f, 0x3e4e147a, 0x3ea5b7a3, 0x3eb7c963, 0x3ec9db22, 0x3edbece2, 0x3ec97018, 0x3ed62d0e, 0x3ee2ea06, 0x3eefa6fa,
				0x3f0afd76, 0x3f13399e, 0x3f1b75c6, 0x3f23b1ee, 0x3f22f93f, 0x3f29e707, 0x3f30d4cf, 0x3f37c298, 0x3f44f55e, 0x3f4ccd36, 0x3f54a50e, 0x3f5c7ce6},
			[]uint32{0x3ef5bc21, 0x3efd7c5c, 0x3f029e48, 0x3f067e64}, 0},
		{3, 0.6, noise[:],
			[]uint32{0x3e3af194, 0x3ec2e05d, 0xbf021e9a, 0xbeec165e, 0xbdbee4f0, 0x3edbe356, 0xbca1d710, 0xbccb59e0, 0x3eef9082, 0x3ed13872, 0xbfa1ac2d, 0x3f4465ae, 0xbdbcfea6, 0xbf2005c4, 0xbf1ab77d, 0x3f4289e8},
			[]uint32{0xbf3b8d54, 0x3efab8a0, 0xbd89c1bc}, 1},
		{1, 0.95, noise[:],
			[]uint32{0x3e93ff3f, 0x3f12aebd, 0xbf651237, 0xbed971e6, 0x3f0925f2, 0xbe435e9e, 0xbe9444b1, 0x3f694a10, 0xbc9fc420, 0x3dee39f0, 0xbf16d99e, 0x3f50b82e, 0xbeb10648, 0xbf38dbff, 0xbe9a2ea9, 0x3f697ddc},
			[]uint32{0xbf1939b2}, 0},
	} {
		x, code := impl.NewComb(c.n, c.gain)
		want(t, "NewComb", code, impl.OK)
		var made []float32
		for _, in := range c.in {
			next, a, code := impl.StepComb(x, in)
			want(t, "StepComb", code, impl.OK)
			made = append(made, a)
			x = next
		}
		wantSamples(t, "StepComb", made, samplesOfBits(c.made...))
		wantComb(t, "StepComb", x, impl.Comb{Ring: ringOfBits(c.at, c.ring...), Gain: c.gain})
	}
}
