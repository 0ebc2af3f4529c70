package tests

import (
	"math"
	"testing"

	"loop.example/g01173/impl"
)

func TestP6NewStrings(t *testing.T) {
	// What is expected is calculated apart from the program.
	for _, c := range []struct {
		period, mix, loss float32
		n                 int
		tune              uint32
		damp              [2]uint32
		again             uint32
	}{
		{4.5, 0, 1, 4, 0x3eaaaaab, [2]uint32{0x3f800000, 0x00000000}, 0x40900000},
		{3, 0, 1, 2, 0x00000000, [2]uint32{0x3f800000, 0x00000000}, 0x40400000},
		{3, 0.5, 1, 2, 0x3eaaaaab, [2]uint32{0x3f000000, 0x3f000000}, 0x40400000},
		{3.25, 0, 0.9, 3, 0x3f19999a, [2]uint32{0x3f800000, 0x00000000}, 0x40500000},
		{math.Nextafter32(3.25, 0), 0, 1, 2, 0xbde38e2c, [2]uint32{0x3f800000, 0x00000000}, 0x40500000},
		{3.4, 0.3, 0.99, 2, 0xbd430c42, [2]uint32{0x3f333333, 0x3e99999a}, 0x4059999a},
		{math.Nextafter32(4.25, 0), 0, 1, 3, 0xbde38e20, [2]uint32{0x3f800000, 0x00000000}, 0x4087ffff},
		{10, 0.25, 0.5, 9, 0x3e124925, [2]uint32{0x3f400000, 0x3e800000}, 0x41200000},
		{math.Nextafter32(10.25, 0), 0, 1, 9, 0xbde38e06, [2]uint32{0x3f800000, 0x00000000}, 0x4123ffff},
		{10.25, 0, 1, 10, 0x3f19999a, [2]uint32{0x3f800000, 0x00000000}, 0x41240000},
		{10.75, 0.5, 1, 10, 0x3f19999a, [2]uint32{0x3f000000, 0x3f000000}, 0x412c0000},
		{100.3, 0.1, 0.995, 99, 0xbdba2f8a, [2]uint32{0x3f666666, 0x3dcccccd}, 0x42c8999a},
		{441.7, 0.37, 0.999, 441, 0x3f00f51c, [2]uint32{0x3f2147ae, 0x3ebd70a4}, 0x43dcd99a},
		{1024, 0, 1, 1023, 0x00000000, [2]uint32{0x3f800000, 0x00000000}, 0x44800000},
		{1024, 0.5, 0, 1023, 0x3eaaaaab, [2]uint32{0x3f000000, 0x3f000000}, 0x44800000},
		{math.Nextafter32(1024, 0), 0, 1, 1023, 0x38000100, [2]uint32{0x3f800000, 0x00000000}, 0x447fffff},
		{1024, 1e-30, 1, 1023, 0x00000000, [2]uint32{0x3f800000, 0x0da24260}, 0x44800000},
		{5, minusZero, minusZero, 4, 0x00000000, [2]uint32{0x3f800000, 0x80000000}, 0x40a00000},
	} {
		x, code := impl.NewString(c.period, c.mix, c.loss)
		want(t, "NewString", code, impl.OK)
		damp := bitsOf2(c.damp)
		wantString(t, "NewString", x, impl.String{
			Loop: impl.Ring{Samples: make([]float32, c.n)},
			Tune: impl.Filter{Kind: impl.FkAllpass, C: [3]float32{math.Float32frombits(c.tune)}},
			Damp: impl.Filter{Kind: impl.FkOneZero, C: [3]float32{damp[0], damp[1]}},
			Loss: c.loss,
		})
		want(t, "ValidString", impl.ValidString(x), true)
		p, code := impl.PeriodOf(x)
		want(t, "PeriodOf", code, impl.OK)
		wantSample(t, "PeriodOf", p, math.Float32frombits(c.again))
	}
}

func TestP6NewStringsHaveNearlyThePeriod(t *testing.T) {
	random := newRandom()
	for range 3000 {
		period := 3 + 1021*float32(random.Float64())
		mix := float32(random.Float64()) / 2
		x, code := impl.NewString(period, mix, 1)
		want(t, "NewString", code, impl.OK)
		fraction := difOf(difOf(period, mix), float32(len(x.Loop.Samples)))
		if fraction < 0.25 || fraction >= 1.25 {
			t.Errorf("period %v, mix %v: the fraction is %v", period, mix, fraction)
		}
		wantFilter(t, "Tune", x.Tune, allpassFor(fraction))
		wantFilter(t, "Damp", x.Damp, impl.OneZero(mix))
		p, _ := impl.PeriodOf(x)
		if math.Abs(float64(p-period)) > float64(period)*1e-6 {
			t.Errorf("period %v, mix %v: PeriodOf is %v", period, mix, p)
		}
	}
}

func TestP6StringsOutOfRange(t *testing.T) {
	below, above := math.Nextafter32(3, 0), math.Nextafter32(1024, 2000)
	for _, period := range []float32{below, above, 2.5, 2, 0, minusZero, -3, -100, 1025, 1e9, greatest, infinite, -infinite, nan, otherNaN, leastSample} {
		wantNoString(t, period, 0, 1)
		wantNoString(t, period, 0.5, 0.5)
		wantNoString(t, period, nan, -1)
	}
	for _, mix := range []float32{math.Nextafter32(0.5, 1), -leastSample, -0.1, 1, infinite, -infinite, nan, greatest} {
		wantNoString(t, 10, mix, 1)
		wantNoString(t, 1024, mix, 0)
	}
	for _, loss := range []float32{math.Nextafter32(1, 2), -leastSample, -1, 2, infinite, -infinite, nan, -greatest} {
		wantNoString(t, 10, 0.25, loss)
		wantNoString(t, 3, 0, loss)
	}
	for _, loss := range []float32{0, minusZero, leastSample, 1} {
		for _, mix := range []float32{0, minusZero, leastSample, 0.5} {
			for _, period := range []float32{3, 1024} {
				_, code := impl.NewString(period, mix, loss)
				want(t, "just in range", code, impl.OK)
			}
		}
	}
}

func wantNoString(t *testing.T, period, mix, loss float32) {
	t.Helper()
	x, code := impl.NewString(period, mix, loss)
	want(t, "NewString", code, impl.ErrRange)
	wantString(t, "with an error", x, impl.String{})
}

func TestP6ValidStrings(t *testing.T) {
	for i, x := range validStrings() {
		if !impl.ValidString(x) {
			t.Errorf("string %d is not valid", i)
		}
	}
	for i, x := range invalidStrings() {
		if impl.ValidString(x) {
			t.Errorf("string %d is valid", i)
		}
	}
}

func TestP6SameStrings(t *testing.T) {
	for _, list := range [][]impl.String{validStrings(), invalidStrings()} {
		for i, x := range list {
			want(t, "the string itself", impl.SameString(x, x), true)
			y := list[(i+1)%len(list)]
			want(t, "both ways", impl.SameString(x, y), impl.SameString(y, x))
		}
	}
	x := withRing(newString(4.5, 0.1, 0.9), 1, 1, nan, minusZero)
	for i, change := range []func(y *impl.String){
		func(y *impl.String) { y.Loop.At = 2 },
		func(y *impl.String) { y.Loop.Samples = []float32{1, nan, 0} },
		func(y *impl.String) { y.Loop.Samples = []float32{1, nan} },
		func(y *impl.String) { y.Tune.C[0] = 0.5 },
		func(y *impl.String) { y.Tune.S[1] = minusZero },
		func(y *impl.String) { y.Damp.C[1] = 0.5 },
		func(y *impl.String) { y.Damp.S[0] = 1 },
		func(y *impl.String) { y.Damp.Kind = impl.FkOnePole },
		func(y *impl.String) { y.Loss = 0.8 },
		func(y *impl.String) { y.Loss = nan },
	} {
		y := x
		change(&y)
		if impl.SameString(x, y) || impl.SameString(y, x) {
			t.Errorf("change %d is not seen", i)
		}
	}
	y := withRing(x, 1, 1, otherNaN, minusZero)
	want(t, "another NaN", impl.SameString(x, y), true)
	x.Loss, y.Loss = nan, otherNaN
	want(t, "another NaN as Loss", impl.SameString(x, y), true)
	x.Loss, y.Loss = 0, minusZero
	want(t, "0 and -0 as Loss", impl.SameString(x, y), false)
}

func TestP6PeriodsOfOtherStrings(t *testing.T) {
	x := withRing(newString(4.5, 0, 1), 1, 1, 2, 3)
	for _, c := range []struct{ tune, mix, period float32 }{
		{0, 0, 4}, {1, 0, 3}, {-1, 0, infinite}, {-1, -greatest, infinite}, {minusZero, minusZero, 4}, {greatest, 0, 2}, {-greatest, 0, 2},
		{0.5, -0.5, difOf(sumOf(3, float32(1)/3), 0.5)}, {-0.5, 2, 8}, {0, greatest, greatest}, {leastSample, -leastSample, 4},
		{-math.Nextafter32(1, 0), -(1 << 25), 4}, // from left to right, 3 is rounded to 4 beside 2 to the power 25
	} {
		x.Tune.C[0], x.Damp.C[1] = c.tune, c.mix
		p, code := impl.PeriodOf(x)
		want(t, "PeriodOf", code, impl.OK)
		wantSample(t, "PeriodOf", p, c.period)
	}
	for _, x := range invalidStrings() {
		p, code := impl.PeriodOf(x)
		want(t, "PeriodOf", code, impl.ErrInvalid)
		wantSample(t, "with an error", p, 0)
	}
}
