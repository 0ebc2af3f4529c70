package tests

import (
	"math"
	"math/big"
	"testing"

	"loop.example/g01173/impl"
)

func wantParts(t *testing.T, period float32, whole int64, part float32) {
	t.Helper()
	n, a, code := impl.DelayParts(period)
	if code != impl.OK || n != whole || !sameBits(a, part) {
		t.Errorf("DelayParts %v: got %d, %v, %d, want %d, %v", period, n, a, code, whole, part)
	}
}

func TestP14PartsOfDelays(t *testing.T) {
	for n := int64(2); n < 1000; n++ {
		a := float32(n)
		wantParts(t, a, n-1, 1)
		wantParts(t, above(a), n-1, above(a)-a+1)
		wantParts(t, a+0.125, n-1, 1.125)
		wantParts(t, below(a+0.25), n-1, below(a+0.25)-a+1)
		wantParts(t, a+0.25, n, 0.25)
		wantParts(t, above(a+0.25), n, above(a+0.25)-a)
		wantParts(t, a+0.5, n, 0.5)
		wantParts(t, below(a+1), n, below(a+1)-a)
	}
	wantParts(t, 1000, 999, 1)
	wantParts(t, below(1000), 999, below(1000)-999)
	wantParts(t, below(2.25), 1, bitsOf(0x3f9ffffe))
}

func TestP14PartsAreTheDelay(t *testing.T) {
	random := newRandom()
	for range 20000 {
		period := float32(2 + 998*random.Float64())
		n, a, code := impl.DelayParts(period)
		want(t, "DelayParts", code, impl.OK)
		if float64(n)+float64(a) != float64(period) || a < 0.25 || a >= 1.25 {
			t.Errorf("DelayParts %v: got %d and %v", period, n, a)
		}
	}
}

func TestP14PartsAreThoseOfStrings(t *testing.T) {
	for period := float32(3); period <= 1000; period += 0.171875 {
		x := newString(period, 0, 1)
		f, code := impl.AllpassFor(period - float32(len(x.Loop.Samples)))
		want(t, "AllpassFor", code, impl.OK)
		wantFilter(t, "Tune", x.Tune, f)
		wantParts(t, period, int64(len(x.Loop.Samples)), period-float32(len(x.Loop.Samples)))
	}
}

func TestP14DelaysOutOfRange(t *testing.T) {
	for _, period := range []float32{below(2), 1.5, 1, 0, minusZero, leastSample, -2, -4.5, above(1000), 1024, 1e10, greatest, -greatest, infinite, -infinite, nan, otherNaN} {
		n, a, code := impl.DelayParts(period)
		if code != impl.ErrRange || n != 0 || !sameBits(a, 0) {
			t.Errorf("DelayParts %v: got %d, %v, %d", period, n, a, code)
		}
	}
}

func wantGlide(t *testing.T, from, to float32, count int64, expected []float32) {
	t.Helper()
	glide, code := impl.GlideOf(from, to, count)
	if code != impl.OK {
		t.Errorf("GlideOf %v, %v, %d: got %d", from, to, count, code)
	}
	wantSamples(t, "GlideOf", glide, expected)
}

func TestP14GlidesThatWereCalculated(t *testing.T) {
	for _, c := range []struct {
		from, to float32
		bits     []uint32
	}{
		{1, 8, []uint32{0x3f800000, 0x40000000, 0x40800000}}, {1, 2, []uint32{0x3f800000}}, {0.1, 0.1, []uint32{0x3dcccccd, 0x3dcccccd, 0x3dcccccd}}, {100, 3, []uint32{0x42c80000, 0x42726294, 0x4212e056, 0x41b200cd, 0x4157b9fd, 0x4102b8e3, 0x409e6cf2}},
		{440, 880, []uint32{0x43dc0000, 0x43e914f7, 0x43f6f112, 0x4402d014, 0x440a9762, 0x4412d519, 0x441b9043, 0x4424d056, 0x442e9d3a, 0x4438ff4d, 0x4443ff6f, 0x444fa706}},
		{20, 20000, []uint32{0x41a00000, 0x421f9ef9, 0x429f3e2c, 0x431edd9a, 0x439e7d43, 0x441e1d26, 0x449dbd43, 0x451d5d9b, 0x459cfe2d, 0x461c9ef8}},
		{3e38, 0.1, []uint32{0x7f61b1e6, 0x7240b2ba, 0x6524868a, 0x580c78c7, 0x4aefde92}}, {7 * leastSample, bitsOf(0x000116c2), []uint32{0x00000007, 0x00000021, 0x0000009a, 0x000002cd, 0x00000d0b, 0x00003cbc}},
	} {
		wantGlide(t, c.from, c.to, int64(len(c.bits)), samplesOfBits(c.bits...))
	}
	long, code := impl.GlideOf(27.5, 4186, impl.MaxGlide)
	want(t, "GlideOf", code, impl.OK)
	want(t, "GlideOf", len(long), impl.MaxGlide)
	wantSamples(t, "GlideOf", []float32{long[0], long[1], long[2048], long[4095]}, []float32{27.5, bitsOf(0x41dc4524), bitsOf(0x43a9a2ea), bitsOf(0x4582a45a)})
}

func TestP14GlidesAreThoseOfTheDocument(t *testing.T) {
	random := newRandom()
	ends := []float32{1, 440, 0.001, leastNormal, 7 * leastSample, mostSub, 1e10, 20000, leastSample}
	for _, from := range ends {
		for _, to := range ends {
			for _, count := range []int{2, 3, 5, 40} {
				if to/from > 0 && to/from <= greatest {
					wantGlide(t, from, to, int64(count), glideOf(from, to, count))
				}
			}
		}
	}
	for range 1500 {
		from, to, count := float32(math.Exp(5*random.NormFloat64())), float32(math.Exp(5*random.NormFloat64())), 1+random.IntN(30)
		wantGlide(t, from, to, int64(count), glideOf(from, to, count))
	}
	wantGlide(t, greatest, greatest/2, impl.MaxGlide, glideOf(greatest, greatest/2, impl.MaxGlide))
	// The factor is rounded, so that this goes beyond the greatest number.
	wantGlide(t, greatest*0.9999, greatest, impl.MaxGlide, glideOf(greatest*0.9999, greatest, impl.MaxGlide))
}

func TestP14GlidesGoFromOneToAnother(t *testing.T) {
	random := newRandom()
	for range 1000 {
		from, to, count := float32(math.Exp(2*random.NormFloat64())), float32(math.Exp(2*random.NormFloat64())), 1+random.Int64N(200)
		glide, code := impl.GlideOf(from, to, count)
		want(t, "GlideOf", code, impl.OK)
		want(t, "GlideOf", int64(len(glide)), count)
		for i, a := range glide {
			near := float64(from) * math.Pow(float64(to)/float64(from), float64(i)/float64(count))
			if math.Abs(float64(a)-near) > 1e-4*near {
				t.Errorf("GlideOf %v, %v, %d, at %d: got %v, want nearly %v", from, to, count, i, a, near)
			}
		}
	}
}

func TestP14GlidesThatStay(t *testing.T) {
	for _, a := range []float32{1, 440, leastSample, mostSub, leastNormal, greatest, 0.3} {
		for _, count := range []int{1, 2, 7, impl.MaxGlide} {
			expected := make([]float32, count)
			for i := range expected {
				expected[i] = a
			}
			wantGlide(t, a, a, int64(count), expected)
		}
	}
}

func TestP14GlidesOfOne(t *testing.T) {
	for _, to := range []float32{1e-35, 0.5, 1, 3, 1e35} {
		wantGlide(t, 0.75, to, 1, []float32{0.75})
	}
}

func wantNoGlide(t *testing.T, from, to float32, count int64) {
	t.Helper()
	glide, code := impl.GlideOf(from, to, count)
	if code != impl.ErrRange || len(glide) != 0 {
		t.Errorf("GlideOf %v, %v, %d: got %d numbers, %d", from, to, count, len(glide), code)
	}
}

func TestP14GlidesOutOfRange(t *testing.T) {
	for _, count := range outside(impl.MaxGlide) {
		wantNoGlide(t, 1, 2, count)
		wantNoGlide(t, 1, 1, count)
		wantNoGlide(t, nan, 0, count)
	}
	for _, a := range []float32{0, minusZero, -leastSample, -1, -440, -greatest, infinite, -infinite, nan, otherNaN} {
		for _, count := range []int64{1, 2, impl.MaxGlide} {
			wantNoGlide(t, a, 1, count)
			wantNoGlide(t, 1, a, count)
			wantNoGlide(t, a, a, count)
		}
	}
	for _, count := range []int64{1, 5, impl.MaxGlide} {
		// The quotients are infinite and 0.
		wantNoGlide(t, leastSample, greatest, count)
		wantNoGlide(t, 0.5, greatest, count)
		wantNoGlide(t, leastNormal, 4, count)
		wantNoGlide(t, greatest, leastSample, count)
		wantNoGlide(t, 2, leastSample, count)
		wantNoGlide(t, greatest, 1e-10, count)
	}
	wantGlide(t, leastNormal, 2, 2, glideOf(leastNormal, 2, 2))
	wantGlide(t, 1, leastSample, 2, glideOf(1, leastSample, 2))
}

func TestP14GlidesWithTooGreatAFactor(t *testing.T) {
	for _, k := range []int{121, 125, 127, -121, -126, -140, -149} {
		to := float32(math.Ldexp(1, k))
		wantNoGlide(t, 1, to, 1)
		wantGlide(t, 1, to, 2, []float32{1, powerOf(float32(k) / 2)})
	}
	for _, k := range []int{120, -120} {
		to := float32(math.Ldexp(1, k))
		wantGlide(t, 1, to, 1, []float32{1})
		wantGlide(t, 1, to, 2, []float32{1, float32(math.Ldexp(1, k/2))})
	}
	wantNoGlide(t, 1, 1.0001*float32(math.Ldexp(1, 120)), 1)
	wantNoGlide(t, 1, 0.9999*float32(math.Ldexp(1, -120)), 1)
}

func wantRatio(t *testing.T, x float32, most, p, q int64) {
	t.Helper()
	n, d, code := impl.BestRatio(x, most)
	if code != impl.OK || n != p || d != q {
		t.Errorf("BestRatio %v, %d: got %d / %d, %d, want %d / %d", x, most, n, d, code, p, q)
	}
}

func TestP14BestRatios(t *testing.T) {
	for _, c := range []struct {
		x          float32
		most, p, q int64
	}{
		{1.5, 10, 3, 2}, {1.5, 1, 2, 1}, {0.5, 1, 0, 1}, {2.5, 1, 2, 1}, {3.5, 1, 4, 1}, {999.5, 1, 1000, 1}, {998.5, 1, 998, 1}, {0, 1, 0, 1}, {minusZero, 1, 0, 1}, {0, 1000, 0, 1}, {minusZero, 1000, 0, 1},
		{1000, 1, 1000, 1}, {1000, 1000, 1000, 1}, {below(1000), 1, 1000, 1}, {1, 1000, 1, 1}, {leastSample, 1000, 0, 1}, {mostSub, 1, 0, 1}, {leastNormal, 1000, 0, 1},
		{bitsOf(0x40490fdb), 7, 22, 7}, {bitsOf(0x40490fdb), 113, 355, 113}, {bitsOf(0x40490fdb), 1000, 355, 113}, {bitsOf(0x402df854), 100, 193, 71}, {0.001, 1000, 1, 1000}, {0.0005, 1000, 1, 1000}, {0.00049, 1000, 0, 1}, {999.999, 1000, 999999, 1000},
		{0.7071067, 1000, 408, 577}, {1.4142135, 500, 577, 408}, {0.333, 10, 1, 3}, {1.2345, 50, 58, 47}, {440.1, 9, 3961, 9}, {0.1, 10, 1, 10}, {0.1, 9, 1, 9}, {0.1, 1000, 1, 10},
		// Ties of p, and of q: the ratios are equally far for several q, and the first one is as good.
		{0.25, 2, 0, 1}, {0.75, 2, 1, 1}, {1.25, 2, 1, 1}, {1.75, 2, 2, 1}, {0.125, 4, 0, 1}, {0.25, 4, 1, 4}, {0.75, 1000, 3, 4}, {2, 1000, 2, 1}, {0.5, 1000, 1, 2}, {0.375, 4, 1, 3}, {0.375, 8, 3, 8}, {0.625, 2, 1, 2}, {7.125, 4, 7, 1},
		// The product is not rounded to a narrow number, which would be a tie.
		{bitsOf(0x3e2aaaab), 3, 1, 3}, {bitsOf(0x3e2aaaab), 2, 0, 1},
	} {
		wantRatio(t, c.x, c.most, c.p, c.q)
	}
}

func TestP14BestRatiosAreThoseOfTheDocument(t *testing.T) {
	random := newRandom()
	for i := range 800 {
		most := []int64{1, 2, 3, 10, 30, 1 + random.Int64N(60)}[i%6]
		for _, x := range []float32{float32(1000 * random.Float64()), random.Float32(), float32(random.IntN(2000)) / 64, float32(1+random.IntN(60)) / float32(1+random.IntN(60)), float32(1+2*random.IntN(9)) / float32(2+2*random.IntN(30))} {
			p, q := ratioOf(x, most)
			wantRatio(t, x, most, p, q)
		}
	}
	for range 20 {
		x := float32(3 * random.Float64())
		p, q := ratioOf(x, impl.MaxDenominator)
		wantRatio(t, x, impl.MaxDenominator, p, q)
	}
}

func TestP14NoOtherRatioIsNearer(t *testing.T) {
	random := newRandom()
	for range 300 {
		x, most := float32(5*random.Float64()), 1+random.Int64N(20)
		p, q, code := impl.BestRatio(x, most)
		want(t, "BestRatio", code, impl.OK)
		exact := new(big.Rat).SetFloat64(float64(x))
		far := new(big.Rat).Sub(big.NewRat(p, q), exact)
		far.Abs(far)
		for d := int64(1); d <= most; d++ {
			for n := int64(0); n <= 6*d; n++ {
				other := new(big.Rat).Sub(big.NewRat(n, d), exact)
				if other.Abs(other).Cmp(far) < 0 {
					t.Fatalf("BestRatio %v, %d: got %d / %d, but %d / %d is nearer", x, most, p, q, n, d)
				}
			}
		}
	}
}

func TestP14RatiosAreFoundAgain(t *testing.T) {
	for q := int64(1); q <= 60; q++ {
		for p := int64(0); p <= 3*q; p++ {
			common := new(big.Rat).SetFrac64(p, q)
			wantRatio(t, float32(p)/float32(q), 60, common.Num().Int64(), common.Denom().Int64())
		}
	}
}

func TestP14RatiosOutOfRange(t *testing.T) {
	numbers := []float32{-leastSample, -1, -0.5, above(1000), 1001, greatest, -greatest, infinite, -infinite, nan, otherNaN}
	wantNone := func(x float32, most int64) {
		t.Helper()
		p, q, code := impl.BestRatio(x, most)
		if code != impl.ErrRange || p != 0 || q != 0 {
			t.Errorf("BestRatio %v, %d: got %d / %d, %d", x, most, p, q, code)
		}
	}
	for _, most := range outside(impl.MaxDenominator) {
		wantNone(1.5, most)
		wantNone(0, most)
		wantNone(nan, most)
	}
	for _, x := range numbers {
		wantNone(x, 1)
		wantNone(x, impl.MaxDenominator)
	}
}
