package tests

import (
	"math"
	"slices"
	"testing"

	"loop.example/g01173/impl"
)

func TestP11FrictionsThatWereCalculated(t *testing.T) {
	for _, c := range []struct {
		slope, difference float32
		bits              uint32
	}{
		{1, 0, 0x3f800000}, {1, minusZero, 0x3f800000}, {0, 5, 0x3f800000}, {minusZero, 5, 0x3f800000}, {0.001, 5, 0x3f800000}, {1, leastSample, 0x3f800000}, {leastSample, 1, 0x3f800000}, {leastSample, 1 << 100, 0x3f800000},
		{1, 1.25, 0x3d800000}, {-1, 1.25, 0x3d800000}, {1, -1.25, 0x3d800000}, {-1, -1.25, 0x3d800000}, {3, 0.1, 0x3f529ca4}, {-3, 0.1, 0x3f529ca4}, {0.7, -1.9, 0x3d5ad474}, {5, 0.3, 0x3d1fd1cd},
		{100, 3, 0x2f0664a8}, {1e5, 1e4, 0x03aa2425}, {1e9, 2, 0x01aa2425}, {1e10, 0.3, 0x00866ebb},
		// The friction is subnormal, and is not flushed.
		{1, 3.5e9, 0x00489037}, {1, 4.2e9, 0x0022fe70}, {-1, 4294967040, 0x00200001},
		// The fourth power, the second one, or the product is infinite.
		{1, 4294967296, 0}, {3e19, 10, 0}, {-1e38, 1e38, 0}, {greatest, greatest, 0},
		{1, infinite, 0}, {1, -infinite, 0}, {-infinite, 1, 0}, {infinite, infinite, 0}, {leastSample, infinite, 0},
	} {
		wantSample(t, "FrictionAt", impl.FrictionAt(c.slope, c.difference), math.Float32frombits(c.bits))
	}
	for _, a := range awkward() {
		wantSample(t, "NaN", impl.FrictionAt(nan, a), nan)
		wantSample(t, "NaN", impl.FrictionAt(a, otherNaN), nan)
	}
	wantSample(t, "0 and infinite", impl.FrictionAt(0, infinite), nan)
	wantSample(t, "infinite and -0", impl.FrictionAt(-infinite, minusZero), nan)
}

func TestP11FrictionsOf1AndJustBelow(t *testing.T) {
	// The sum is rounded, so that the next two numbers behind 0.25 have the friction 1, too.
	for i, bits := range []uint32{0x3f800000, 0x3f800000, 0x3f800000, 0x3f7ffff8, 0x3f7ffff8, 0x3f7ffff8, 0x3f7ffff0, 0x3f7ffff0} {
		a := math.Float32frombits(0x3e800000 + uint32(i))
		wantSample(t, "FrictionAt", impl.FrictionAt(1, a), math.Float32frombits(bits))
		wantSample(t, "FrictionAt", impl.FrictionAt(a, -1), math.Float32frombits(bits))
	}
}

func TestP11FrictionsAreThoseOfTheDocument(t *testing.T) {
	random := newRandom()
	for _, slope := range awkward() {
		for _, a := range awkward() {
			wantSample(t, "FrictionAt", impl.FrictionAt(slope, a), frictionOf(slope, a))
		}
	}
	for range 5000 {
		slope, a := float32(math.Ldexp(random.Float64()-0.5, random.IntN(8))), float32(math.Ldexp(random.Float64()-0.5, random.IntN(4)))
		wantSample(t, "FrictionAt", impl.FrictionAt(slope, a), frictionOf(slope, a))
		slope, a = math.Float32frombits(random.Uint32()), math.Float32frombits(random.Uint32())
		wantSample(t, "any bits", impl.FrictionAt(slope, a), frictionOf(slope, a))
	}
}

func TestP11FrictionIsEvenAndNeverGrows(t *testing.T) {
	random := newRandom()
	var differences []float32
	for _, a := range awkward() {
		if a >= 0 {
			differences = append(differences, a)
		}
	}
	for range 1000 {
		differences = append(differences, float32(math.Ldexp(random.Float64(), random.IntN(60)-30)))
	}
	slices.Sort(differences)
	for _, slope := range []float32{leastSample, 1e-20, 0.3, 1, 2.5, 3, 17.3, 1e5, greatest} {
		before := float32(1)
		for _, a := range differences {
			f := impl.FrictionAt(slope, a)
			if !(f <= before && f >= 0) {
				t.Errorf("FrictionAt %v and %v: got %v behind %v", slope, a, f, before)
			}
			wantSample(t, "the opposite difference", impl.FrictionAt(slope, -a), f)
			wantSample(t, "the opposite slope", impl.FrictionAt(-slope, a), f)
			before = f
		}
	}
}

func TestP11TablesOfFriction(t *testing.T) {
	for _, slope := range append(finiteSamples, 0.25, 2.5, -20) {
		table, code := impl.FrictionTable(slope)
		want(t, "FrictionTable", code, impl.OK)
		for i, f := range table {
			wantSample(t, "FrictionTable", f, frictionOf(slope, float32(i-128)/128))
			wantSample(t, "the other side", table[256-i], f)
		}
		wantSample(t, "the middle", table[128], 1)
	}
	for _, c := range []struct {
		slope float32
		at    int
		bits  uint32
	}{
		{1, 0, 0x3dda5cc3}, {1, 1, 0x3dde4e3a}, {1, 64, 0x3ed1b717}, {1, 95, 0x3f782762}, {1, 96, 0x3f800000}, {1, 128, 0x3f800000}, {1, 200, 0x3eac8881}, {1, 255, 0x3dde4e3a}, {1, 256, 0x3dda5cc3},
		{-2.5, 0, 0x3c12dab0}, {-2.5, 31, 0x3ca77e0e}, {-2.5, 64, 0x3d800000}, {-2.5, 128, 0x3f800000}, {-2.5, 255, 0x3c167026}, {20, 0, 0x36b4ffe3}, {20, 127, 0x3f800000}, {20, 130, 0x3f48dfcd}, {20, 256, 0x36b4ffe3},
	} {
		table, code := impl.FrictionTable(c.slope)
		want(t, "FrictionTable", code, impl.OK)
		wantSample(t, "what was calculated", table[c.at], math.Float32frombits(c.bits))
	}
	for _, slope := range noForces {
		table, code := impl.FrictionTable(slope)
		want(t, "FrictionTable", code, impl.ErrRange)
		wantSamples(t, "with an error", table[:], make([]float32, 257))
	}
}

func wantSticks(t *testing.T, x impl.Bow, speed float32, expected bool) {
	t.Helper()
	sticks, code := impl.SticksAt(x, speed)
	want(t, "SticksAt", code, impl.OK)
	if sticks != expected {
		t.Errorf("SticksAt %v: got %v", speed, sticks)
	}
}

func TestP11SpeedsAtWhichBowsStick(t *testing.T) {
	silent := newBow(10, 0.25, 0.5, 0.9, 1)
	for i, sticks := range []bool{true, true, true, false, false} {
		a := math.Float32frombits(0x3e800000 + uint32(i))
		wantSticks(t, silent, a, sticks)
		wantSticks(t, silent, -a, sticks)
	}
	for _, a := range []float32{0, minusZero, leastSample, 0.1} {
		wantSticks(t, silent, a, true)
	}
	for _, a := range []float32{nan, otherNaN, infinite, -infinite, greatest, -1} {
		wantSticks(t, silent, a, false)
	}
	smooth := newBow(10, 0.25, 0.5, 0.9, 0)
	for _, a := range finiteSamples {
		wantSticks(t, smooth, a, true)
	}
	for _, a := range noForces {
		wantSticks(t, smooth, a, false)
	}
	for _, c := range []struct {
		neck, bridge, loss, speed float32
		sticks                    bool
	}{
		{1, 0, 1, -1, true}, {1, 0, 1, 1, false}, {1, 0, 1, 0, false}, {0, 1, 0.5, -0.5, true}, {0, 1, 0.5, -1, false}, {0, 1, 0.5, 0, false}, {2, 1, -1, -1, true}, {2, 1, 1, -3, true}, {2, 1, 1, -3.5, false},
		{greatest, greatest, 1, 0, false}, {greatest, -greatest, 1, 0.25, true},
	} {
		x := under(c.neck, c.bridge, c.loss, 1)
		wantSticks(t, x, c.speed, c.sticks)
	}
	for _, x := range bows().valid() {
		for _, a := range append(awkward(), 0.3, -0.2) {
			_, _, d, _ := speedBeside(x, a)
			wantSticks(t, x, a, frictionOf(x.Slope, d) == 1)
		}
	}
	for _, x := range bows().invalid() {
		sticks, code := impl.SticksAt(x, 0)
		want(t, "SticksAt", code, impl.ErrInvalid)
		want(t, "with an error", sticks, false)
	}
}
