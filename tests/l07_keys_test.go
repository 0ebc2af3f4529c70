package tests

import (
	"math"
	"testing"

	"loop.example/g01173/impl"
)

func wantKey(t *testing.T, x impl.Tuning, key int64, cents float32, hertz float32) {
	t.Helper()
	a, code := impl.KeyCents(x, key)
	if code != impl.OK || !sameBits(a, cents) {
		t.Errorf("KeyCents %v, %d: got %v, %d, want %v", x, key, a, code, cents)
	}
	a, code = impl.KeyHertz(x, key)
	if code != impl.OK || !sameBits(a, hertz) {
		t.Errorf("KeyHertz %v, %d: got %v, %d, want %v", x, key, a, code, hertz)
	}
}

func wantNoHertz(t *testing.T, x impl.Tuning, key, expected int64) {
	t.Helper()
	a, code := impl.KeyHertz(x, key)
	if code != expected || !sameBits(a, 0) {
		t.Errorf("KeyHertz %v, %d: got %v, %d, want %d", x, key, a, code, expected)
	}
}

func wantNoKey(t *testing.T, x impl.Tuning, key, expected int64) {
	t.Helper()
	a, code := impl.KeyCents(x, key)
	if code != expected || !sameBits(a, 0) {
		t.Errorf("KeyCents %v, %d: got %v, %d, want %d", x, key, a, code, expected)
	}
	wantNoHertz(t, x, key, expected)
}

func TestP13KeysAreThoseOfTheDocument(t *testing.T) {
	without := 0
	for _, x := range validTunings() {
		for key := int64(-impl.MaxKey); key <= impl.MaxKey; key++ {
			hertz, ok := hertzOfKey(x, key)
			if !ok {
				cents, code := impl.KeyCents(x, key)
				want(t, "KeyCents", code, impl.OK)
				wantSample(t, "KeyCents", cents, centsOfKey(x, key))
				wantNoHertz(t, x, key, impl.ErrRange)
				without++
				continue
			}
			wantKey(t, x, key, centsOfKey(x, key), hertz)
		}
	}
	if without < 200 {
		t.Errorf("only %d keys have no frequency", without)
	}
}

func TestP13KeysThatWereCalculated(t *testing.T) {
	for _, c := range []struct {
		key          int64
		cents, hertz uint32
	}{
		{-100, 0xc61c0941, 0x3f514ced}, {-99, 0xc61aee91, 0x3f5a0572}, {-61, 0xc5befdda, 0x40f54623}, {-13, 0xc4a3f767, 0x42f54624}, {-12, 0xc4960000, 0x4302d014}, {-11, 0xc4880899, 0x430b889e}, {-1, 0xc2df7670, 0x43754626}, {0, 0x00000000, 0x4382d014},
		{1, 0x42df7677, 0x438b889e}, {5, 0x43f905c4, 0x43ae6ac6}, {11, 0x44880899, 0x43f54626}, {12, 0x44960000, 0x4402d014}, {13, 0x44a3f767, 0x440b889e}, {50, 0x459c5f48, 0x45932a18}, {99, 0x461aee91, 0x479cf9b4}, {100, 0x461c0941, 0x47a38418},
	} {
		wantKey(t, justTuning(), c.key, bitsOf(c.cents), bitsOf(c.hertz))
	}
	// Where the product is not rounded by itself, these are other numbers.
	for _, c := range []struct {
		base, octave uint32
		degrees      []uint32
		key          int64
		cents, hertz uint32
	}{
		{0x464c39fe, 0x4417e60b, []uint32{0, 0x439176e1}, 57, 0x46872f26, 0x4d889629}, {0x43b36edb, 0x454f62c2, []uint32{0, 0x42e892e0, 0x43e89d80, 0x44f22ab2}, -9, 0xc5fa8978, 0x405fd6b0},
		{0x4699c089, 0x4569ca43, []uint32{0, 0x453a1bd4}, -71, 0xc8009957, 0x0fb86550}, {0x461f0733, 0x454ca4a2, []uint32{0, 0x441a0d8d}, 87, 0x480a18ab, 0x7f800000},
	} {
		wantKey(t, tuning(bitsOf(c.base), bitsOf(c.octave), samplesOfBits(c.degrees...)...), c.key, bitsOf(c.cents), bitsOf(c.hertz))
	}
	for i, bits := range []uint32{
		0x435c0000, 0x436914f5, 0x4376f110, 0x4382d012, 0x438a9761, 0x4392d517, 0x439b9041, 0x43a4d054, 0x43ae9d37, 0x43b8ff49, 0x43c3ff6a, 0x43cfa700, 0x43dc0000,
		0x43e914f7, 0x43f6f110, 0x4402d012, 0x440a9761, 0x4412d517, 0x441b9041, 0x4424d054, 0x442e9d37, 0x4438ff49, 0x4443ff6a, 0x444fa700, 0x445c0000,
	} {
		wantKey(t, equalTuning(440, 12), int64(i-12), float32(100*(i-12)), bitsOf(bits))
	}
}

func TestP13KeysBelow0(t *testing.T) {
	x := tuning(440, 1000, 0, 100, 700)
	for _, c := range []struct {
		key   int64
		cents float32
	}{
		{-1, -300}, {-2, -900}, {-3, -1000}, {-4, -1300}, {-5, -1900}, {-6, -2000}, {-7, -2300}, {-99, -33000}, {-100, -33300}, {0, 0}, {1, 100}, {2, 700}, {3, 1000}, {4, 1100}, {100, 33100}, {99, 33000}, {98, 32700},
	} {
		cents, code := impl.KeyCents(x, c.key)
		want(t, "KeyCents", code, impl.OK)
		wantSample(t, "KeyCents", cents, c.cents)
	}
	// Each key is an octave of its own.
	for key := int64(-impl.MaxKey); key <= impl.MaxKey; key++ {
		wantKey(t, tuning(440, 1200, 0), key, float32(1200*key), float32(math.Ldexp(440, int(key))))
	}
}

func TestP13KeysOutOfRange(t *testing.T) {
	for _, x := range validTunings() {
		for _, key := range noKeys {
			wantNoKey(t, x, key, impl.ErrRange)
			wantNoPeriod(t, x, key, 44100, impl.ErrRange)
			wantNoPeriod(t, x, key, 0, impl.ErrRange)
		}
		for _, key := range []int64{-impl.MaxKey, impl.MaxKey} {
			cents, code := impl.KeyCents(x, key)
			want(t, "KeyCents", code, impl.OK)
			wantSample(t, "KeyCents", cents, centsOfKey(x, key))
		}
	}
}

func TestP13KeysWithoutAFrequency(t *testing.T) {
	x := tuning(1, 4800, 0)
	wantKey(t, x, 30, 144000, float32(math.Ldexp(1, 120)))
	wantKey(t, x, -30, -144000, float32(math.Ldexp(1, -120)))
	for _, key := range []int64{31, -31, 32, -32, impl.MaxKey, -impl.MaxKey} {
		wantNoHertz(t, x, key, impl.ErrRange)
	}
	// One octave less, and the last degrees of this one are just within, just at and just above the bound.
	y := tuning(2, 4800, 0, below(4800))
	wantKey(t, y, 60, 144000, float32(math.Ldexp(1, 121)))
	wantNoHertz(t, y, 61, impl.ErrRange)
	wantKey(t, y, 59, 144000, float32(math.Ldexp(1, 121)))
	z := tuning(1, 4800, 0, 0.015625, 4799.984375)
	wantKey(t, z, 89, 143999.984375, powerOf(quoOf(143999.984375, 1200)))
	wantNoHertz(t, z, 91, impl.ErrRange)
	wantKey(t, z, -90, -144000, float32(math.Ldexp(1, -120)))
	wantNoHertz(t, z, -91, impl.ErrRange)
	// The frequency is infinite, but there is one.
	wantKey(t, tuning(20000, 4800, 0), 30, 144000, infinite)
}

func TestP13HigherKeysHaveMoreCents(t *testing.T) {
	for _, x := range []impl.Tuning{justTuning(), equalTuning(440, 1), equalTuning(440, 12), equalTuning(20000, 19), equalTuning(1, 31), tuning(440, 1902, 0, 0.5, 700, 1901.5), tuning(440, 1, 0, 0.25), tuning(440, 4800, 0, 4799)} {
		n := int64(len(x.Degrees))
		for key := int64(-impl.MaxKey); key < impl.MaxKey; key++ {
			a, _ := impl.KeyCents(x, key)
			b, _ := impl.KeyCents(x, key+1)
			first, one := impl.KeyHertz(x, key)
			second, two := impl.KeyHertz(x, key+1)
			if b <= a || one == impl.OK && two == impl.OK && second < first {
				t.Errorf("key %d has %v cents and %v hertz, and the next one %v and %v", key, a, first, b, second)
			}
			for octaves := int64(-4); octaves <= 4; octaves++ {
				other := key + octaves*n
				if other < -impl.MaxKey || other > impl.MaxKey {
					continue
				}
				c, _ := impl.KeyCents(x, other)
				if far := float64(c) - float64(a) - float64(octaves)*float64(x.Octave); math.Abs(far) > 0.05 {
					t.Errorf("key %d has %v cents, and %d octaves higher %v", key, a, octaves, c)
				}
			}
		}
	}
}

func TestP13KeysFitPowersAndLogs(t *testing.T) {
	for _, x := range validTunings() {
		for key := int64(-impl.MaxKey); key <= impl.MaxKey; key++ {
			cents, _ := impl.KeyCents(x, key)
			hertz, code := impl.KeyHertz(x, key)
			if code != impl.OK || hertz > greatest {
				continue
			}
			log, code := impl.LogTwo(hertz / x.Base)
			want(t, "LogTwo", code, impl.OK)
			if far := 1200*float64(log) - float64(cents); math.Abs(far) > 1e-6*math.Abs(float64(cents))+1e-3 {
				t.Errorf("%v, key %d: %v cents, but %v hertz", x, key, cents, hertz)
			}
		}
	}
}

func wantNearest(t *testing.T, x impl.Tuning, hertz float32, expected int64) {
	t.Helper()
	key, code := impl.NearestKey(x, hertz)
	if code != impl.OK || key != expected {
		t.Errorf("NearestKey %v, %v: got %d, %d, want %d", x, hertz, key, code, expected)
	}
}

func wantNoNearest(t *testing.T, x impl.Tuning, hertz float32, expected int64) {
	t.Helper()
	key, code := impl.NearestKey(x, hertz)
	if code != expected || key != 0 {
		t.Errorf("NearestKey %v, %v: got %d, %d, want %d", x, hertz, key, code, expected)
	}
}

func TestP13NearestKeysAreThoseOfTheDocument(t *testing.T) {
	random := newRandom()
	for _, x := range validTunings() {
		for range 3 {
			key := random.Int64N(2*impl.MaxKey) - impl.MaxKey
			hertz, ok := hertzOfKey(x, key)
			next, also := hertzOfKey(x, key+1)
			if !ok || !also || next > greatest {
				continue
			}
			for _, a := range []float32{hertz, -hertz, above(hertz), below(next), hertz + (next-hertz)*random.Float32(), hertz/2 + next/2} {
				wantNearest(t, x, a, nearestOf(x, a))
			}
		}
	}
}

func TestP13NearestKeysOfKeys(t *testing.T) {
	for i, x := range validTunings() {
		for key := int64(-impl.MaxKey); key <= impl.MaxKey; key++ {
			hertz, code := impl.KeyHertz(x, key)
			if code != impl.OK || hertz > greatest {
				continue
			}
			nearest, code := impl.NearestKey(x, hertz)
			want(t, "NearestKey", code, impl.OK)
			again, _ := impl.KeyHertz(x, nearest)
			if again != hertz || nearest > key {
				t.Errorf("tuning %d: of %v, that of key %d, the nearest key is %d, with %v", i, hertz, key, nearest, again)
			}
		}
	}
	for key := int64(-impl.MaxKey); key <= impl.MaxKey; key++ {
		hertz, _ := impl.KeyHertz(justTuning(), key)
		wantNearest(t, justTuning(), hertz, key)
		wantNearest(t, justTuning(), hertz*1.01, key)
		wantNearest(t, justTuning(), hertz*0.99, key)
	}
}

func TestP13NearestKeysBetweenTwo(t *testing.T) {
	// Keys 0 and 1 have 100 and 200 hertz, and so on.
	x := tuning(100, 1200, 0)
	for key := int64(-20); key < 20; key++ {
		hertz, _ := impl.KeyHertz(x, key)
		middle := 1.5 * hertz
		wantNearest(t, x, middle, key)
		wantNearest(t, x, below(middle), key)
		wantNearest(t, x, above(middle), key+1)
	}
}

func TestP13NearestKeysOfFarFrequencies(t *testing.T) {
	x := equalTuning(440, 12)
	hertz, _ := impl.KeyHertz(x, impl.MaxKey)
	wantNearest(t, x, hertz, impl.MaxKey)
	wantNearest(t, x, 2*hertz, impl.MaxKey)
	wantNearest(t, x, 1e9, impl.MaxKey)
	for _, a := range []float32{0, minusZero, leastSample, -leastSample, leastNormal, 0.001, -0.001, -1, -440} {
		wantNearest(t, x, a, -impl.MaxKey)
		wantNearest(t, tuning(1, 4800, 0), a, pick(a > 0.0005, int64(-3), -30))
	}
	// Such differences are rounded to the same number for all keys.
	for _, a := range []float32{1e14, 1e30, greatest, -1e14, -1e30, -greatest} {
		wantNearest(t, x, a, -impl.MaxKey)
	}
	// Keys that are higher, and infinite, are still farther.
	wantNearest(t, tuning(20000, 4800, 0), greatest, 28)
	wantNearest(t, tuning(20000, 4800, 0), -greatest, -30)
	for _, a := range []float32{infinite, -infinite, nan, otherNaN} {
		for _, x := range validTunings() {
			wantNoNearest(t, x, a, impl.ErrRange)
		}
	}
}

func TestP13NearestKeysWithTheSameFrequency(t *testing.T) {
	// Of two keys each, one is a tiny part of a cent higher; beside the octaves this is lost.
	x := tuning(440, 1200, 0, leastSample)
	for key := int64(-impl.MaxKey); key <= impl.MaxKey; key++ {
		hertz, _ := impl.KeyHertz(x, key)
		wantNearest(t, x, hertz, key-(key+200)%2)
	}
	// The first key of an octave has the frequency of the last one below it.
	y := tuning(440, 1200, 0, 600, below(1200))
	for key := int64(-99); key <= 99; key += 3 {
		one, _ := impl.KeyHertz(y, key)
		two, _ := impl.KeyHertz(y, key-1)
		wantNearest(t, y, one, pick(one == two, key-1, key))
		wantNearest(t, y, two, key-1)
	}
	one, _ := impl.KeyHertz(y, 99)
	two, _ := impl.KeyHertz(y, 98)
	wantSample(t, "the same", one, two)
}

func TestP13NearestKeysWhereSomeHaveNoFrequency(t *testing.T) {
	x := tuning(1, 4800, 0)
	for key := int64(-30); key <= 30; key++ {
		wantNearest(t, x, float32(math.Ldexp(1, int(4*key))), key)
	}
	wantNearest(t, x, greatest, 30)
	wantNearest(t, x, 0, -30)
	for _, x := range validTunings() {
		// The key 0 always has one, so that there always is a nearest key.
		wantNearest(t, x, x.Base, nearestOf(x, x.Base))
	}
}

func wantPeriod(t *testing.T, x impl.Tuning, key int64, rate, expected float32) {
	t.Helper()
	period, code := impl.PeriodOfKey(x, key, rate)
	if code != impl.OK || !sameBits(period, expected) {
		t.Errorf("PeriodOfKey %v, %d, %v: got %v, %d, want %v", x, key, rate, period, code, expected)
	}
}

func wantNoPeriod(t *testing.T, x impl.Tuning, key int64, rate float32, expected int64) {
	t.Helper()
	period, code := impl.PeriodOfKey(x, key, rate)
	if code != expected || !sameBits(period, 0) {
		t.Errorf("PeriodOfKey %v, %d, %v: got %v, %d, want %d", x, key, rate, period, code, expected)
	}
}

func TestP14PeriodsOfKeys(t *testing.T) {
	for _, x := range validTunings() {
		for key := int64(-impl.MaxKey); key <= impl.MaxKey; key += 7 {
			hertz, ok := hertzOfKey(x, key)
			for _, rate := range []float32{1, above(1), 44100, 8000.5, below(1000000), 1000000} {
				if !ok {
					wantNoPeriod(t, x, key, rate, impl.ErrRange)
					continue
				}
				wantPeriod(t, x, key, rate, quoOf(rate, hertz))
			}
		}
	}
}

func TestP14PeriodsThatWereCalculated(t *testing.T) {
	for _, c := range []struct {
		key  int64
		bits uint32
	}{
		{-100, 0x4752b3ac}, {-99, 0x474a461a}, {-61, 0x45b3cc87}, {-13, 0x43b3cc87}, {-12, 0x43a88fbd}, {-1, 0x4333cc85}, {0, 0x43288fbd}, {1, 0x431e06c1}, {5, 0x42fcd79b}, {12, 0x42a88fbd}, {50, 0x4115d518}, {99, 0x3f0c77c6}, {100, 0x3f06d965},
	} {
		wantPeriod(t, justTuning(), c.key, 44100, bitsOf(c.bits))
	}
	wantPeriod(t, tuning(20000, 4800, 0), 30, 44100, 0)
	wantPeriod(t, tuning(1, 4800, 0), -30, 1000000, infinite)
	wantPeriod(t, tuning(1, 4800, 0), -30, 1, float32(math.Ldexp(1, 120)))
}

func TestP14RatesOutOfRange(t *testing.T) {
	rates := []float32{below(1), 0, minusZero, leastSample, -1, -44100, above(1000000), greatest, -greatest, infinite, -infinite, nan, otherNaN}
	for _, x := range validTunings() {
		for _, rate := range rates {
			for _, key := range []int64{0, 1, -1, impl.MaxKey, -impl.MaxKey, impl.MaxKey + 1} {
				wantNoPeriod(t, x, key, rate, impl.ErrRange)
			}
		}
	}
}
