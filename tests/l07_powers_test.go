package tests

import (
	"math"
	"testing"

	"loop.example/g01173/impl"
)

// powersOfBits and logsOfBits have been found apart from the program, with
// rational numbers.
var powersOfBits = [][2]uint32{
	{0x00000000, 0x3f800000}, {0x80000000, 0x3f800000}, {0x00000001, 0x3f800000}, {0x80000001, 0x3f800000}, {0x007fffff, 0x3f800000}, {0x807fffff, 0x3f800000}, {0x00800000, 0x3f800000},
	{0x3f000000, 0x3fb504f3}, {0xbf000000, 0x3f3504f3}, {0x3e800000, 0x3f9837f0}, {0x3f800000, 0x40000000}, {0xbf800000, 0x3f000000}, {0x3f7fffff, 0x3fffffff}, {0xbf7fffff, 0x3f000000},
	{0x3f800001, 0x40000001}, {0xbf800001, 0x3effffff}, {0x40400000, 0x41000000}, {0x403fffff, 0x40fffffd}, {0x40400001, 0x41000001}, {0xc0e00000, 0x3c000000}, {0xc0dfffff, 0x3c000003},
	{0xc0e00001, 0x3bfffffa}, {0x42f00000, 0x7b800000}, {0x42efffff, 0x7b7fffa7}, {0xc2f00000, 0x03800000}, {0xc2efffff, 0x0380002c}, {0x3dcccccd, 0x3f892fdf}, {0x40490fdb, 0x410d331d},
	{0xc2c8999a, 0x0d4fefa9}, {0x42b4cccd, 0x6ca8e5ae}, {0xbe99999a, 0x3f4fefc6}, {0x3f155555, 0x3fbfc887}, {0x42effae1, 0x7b7e3b37}, {0xb3000000, 0x3f800000}, {0x33000000, 0x3f800000},
	// With fewer or more steps, or with narrow numbers in between, these are other numbers.
	{0x3f7ffffe, 0x3fffffff}, {0x3f7fffee, 0x3ffffff4}, {0x3f7fffc7, 0x3fffffd8}, {0x3f7c90e5, 0x3ffda17a}, {0xbeffffa1, 0x3f35050a}, {0xbe1f29de, 0x3f65da56}, {0xbaec2b40, 0x3f7fae33}, {0xb4fdea14, 0x3f7ffffa},
}

var logsOfBits = [][2]uint32{
	{0x3f800000, 0x00000000}, {0x40000000, 0x3f800000}, {0x41000000, 0x40400000}, {0x3f000000, 0xbf800000}, {0x40400000, 0x3fcae00d}, {0x3dcccccd, 0xc0549a78}, {0x40490fdb, 0x3fd3643a},
	{0x3f800001, 0x34380000}, {0x3f7fffff, 0xb3ba0000}, {0x3fffffff, 0x3f7fffff}, {0x40000001, 0x3f800001}, {0x407fffff, 0x3fffffff}, {0x40800001, 0x40000001}, {0x00000001, 0xc3150000},
	{0x00000002, 0xc3140000}, {0x00000003, 0xc3136a40}, {0x007fffff, 0xc2fc0000}, {0x00800000, 0xc2fc0000}, {0x00800001, 0xc2fc0000}, {0x7f7fffff, 0x43000000}, {0x7f000000, 0x42fe0000},
	{0x7effffff, 0x42fe0000}, {0x3fb504f3, 0x3effffff}, {0x3fb504f4, 0x3f000002}, {0x1e3ce508, 0xc284e08b}, {0x60ad78ec, 0x4284e08b}, {0x43dc0000, 0x410c8073}, {0x3fc00000, 0x3f15c01a},
	// With fewer or more steps, or with narrow numbers in between, these are other numbers.
	{0x3f7fffc7, 0xb6a47800}, {0x3f7ffff7, 0xb54fc000}, {0x3f765317, 0xbd63ab4a}, {0x3f80000f, 0x362d1000}, {0x11c32176, 0xc2b6c88d}, {0x7cd00ff5, 0x42f566d9},
}

func wantPower(t *testing.T, x, expected float32) {
	t.Helper()
	power, code := impl.TwoTo(x)
	if code != impl.OK || !sameBits(power, expected) {
		t.Errorf("TwoTo %v: got %v, %d, want %v", x, power, code, expected)
	}
}

func wantLog(t *testing.T, x, expected float32) {
	t.Helper()
	log, code := impl.LogTwo(x)
	if code != impl.OK || !sameBits(log, expected) {
		t.Errorf("LogTwo %v: got %v, %d, want %v", x, log, code, expected)
	}
}

func TestP13PowersToTheLastBit(t *testing.T) {
	for _, c := range powersOfBits {
		wantPower(t, bitsOf(c[0]), bitsOf(c[1]))
	}
}

func TestP13LogsToTheLastBit(t *testing.T) {
	for _, c := range logsOfBits {
		wantLog(t, bitsOf(c[0]), bitsOf(c[1]))
	}
}

func TestP13PowersAreRoundedAtEachStep(t *testing.T) {
	random := newRandom()
	for range 5000 {
		for _, x := range []float32{float32(240*random.Float64() - 120), float32(2*random.Float64() - 1), float32(random.NormFloat64() / 100)} {
			wantPower(t, x, powerOf(x))
		}
	}
	for _, x := range awkward() {
		if x >= -120 && x <= 120 {
			wantPower(t, x, powerOf(x))
		}
	}
}

func TestP13LogsAreRoundedAtEachStep(t *testing.T) {
	random := newRandom()
	for range 4000 {
		for _, x := range []float32{float32(1 + random.Float64()), bitsOf(1 + random.Uint32N(0x7f7fffff)), bitsOf(1 + random.Uint32N(0x7fffff))} {
			wantLog(t, x, logOf(x))
		}
	}
	for _, x := range awkward() {
		if x > 0 && x <= greatest {
			wantLog(t, x, logOf(x))
		}
	}
}

func TestP13PowersOfWholeNumbers(t *testing.T) {
	for k := -120; k <= 120; k++ {
		x, power := float32(k), float32(math.Ldexp(1, k))
		wantPower(t, x, power)
		if k < 120 {
			wantPower(t, above(x), powerOf(above(x)))
		}
		if k > -120 {
			wantPower(t, below(x), powerOf(below(x)))
		}
	}
}

func TestP13LogsOfPowers(t *testing.T) {
	for k := -149; k <= 127; k++ {
		x := float32(math.Ldexp(1, k))
		wantLog(t, x, float32(k))
		wantLog(t, above(x), logOf(above(x)))
		if k > -149 {
			wantLog(t, below(x), logOf(below(x)))
		}
	}
	wantLog(t, greatest, 128)
}

func TestP13PowersAndLogsAreNearlySo(t *testing.T) {
	random := newRandom()
	for range 20000 {
		x := float32(240*random.Float64() - 120)
		power, _ := impl.TwoTo(x)
		if near := math.Exp2(float64(x)); math.Abs(float64(power)-near) > 1e-7*near {
			t.Errorf("TwoTo %v: got %v, want nearly %v", x, power, near)
		}
		a := bitsOf(1 + random.Uint32N(0x7f7fffff))
		log, _ := impl.LogTwo(a)
		if near := math.Log2(float64(a)); math.Abs(float64(log)-near) > 1e-7*math.Abs(near)+2e-9 {
			t.Errorf("LogTwo %v: got %v, want nearly %v", a, log, near)
		}
	}
}

func TestP13PowersAndLogsLeadBack(t *testing.T) {
	random := newRandom()
	for range 20000 {
		x := float32(240*random.Float64() - 120)
		power, _ := impl.TwoTo(x)
		back, code := impl.LogTwo(power)
		want(t, "LogTwo", code, impl.OK)
		if math.Abs(float64(back)-float64(x)) > 2e-7*math.Abs(float64(x))+2e-7 {
			t.Errorf("of %v the power is %v, and of this the logarithm %v", x, power, back)
		}
	}
}

func TestP13PowersAndLogsNeverFall(t *testing.T) {
	random := newRandom()
	for range 20000 {
		x, a := float32(239*random.Float64()-119.5), bitsOf(1+random.Uint32N(0x7f7ffffe))
		first, _ := impl.TwoTo(x)
		second, _ := impl.TwoTo(above(x))
		one, _ := impl.LogTwo(a)
		two, _ := impl.LogTwo(above(a))
		if second < first || two < one {
			t.Errorf("%v has the power %v, and the next one %v; %v has the logarithm %v, and the next one %v", x, first, second, a, one, two)
		}
	}
}

func TestP13PowersOutOfRange(t *testing.T) {
	for _, x := range []float32{above(120), below(-120), 121, -121, 1000, greatest, -greatest, infinite, -infinite, nan, otherNaN} {
		power, code := impl.TwoTo(x)
		if code != impl.ErrRange || !sameBits(power, 0) {
			t.Errorf("TwoTo %v: got %v, %d", x, power, code)
		}
	}
}

func TestP13LogsOutOfRange(t *testing.T) {
	for _, x := range []float32{0, minusZero, -leastSample, -mostSub, -1, -8, -greatest, infinite, -infinite, nan, otherNaN} {
		log, code := impl.LogTwo(x)
		if code != impl.ErrRange || !sameBits(log, 0) {
			t.Errorf("LogTwo %v: got %v, %d", x, log, code)
		}
	}
}

func wantCents(t *testing.T, p, q int64, expected float32) {
	t.Helper()
	cents, code := impl.CentsOf(p, q)
	if code != impl.OK || !sameBits(cents, expected) {
		t.Errorf("CentsOf %d and %d: got %v, %d, want %v", p, q, cents, code, expected)
	}
}

func TestP13CentsOfRatios(t *testing.T) {
	for _, c := range []struct {
		p, q int64
		bits uint32
	}{
		{1, 1, 0}, {2, 1, 0x44960000}, {1, 2, 0xc4960000}, {3, 2, 0x442f7d1e}, {2, 3, 0xc42f7d1e}, {5, 4, 0x43c12827}, {7, 1, 0x45528d37}, {1, 1000, 0xc63adbc3}, {1000, 1, 0x463adbc3}, {1000, 1000, 0},
		{999, 1000, 0xbfddb4c3}, {1000, 999, 0x3fddb56c}, {16, 15, 0x42df7677}, {81, 64, 0x43cbe8f6}, {998, 999, 0xbfddee4b}, {531, 263, 0x44980c20}, {45, 32, 0x44138e51},
		// With a wide quotient or a wide logarithm, these are other numbers.
		{5, 37, 0xc558907c}, {8, 14, 0xc47234db}, {10, 17, 0xc465a911}, {900, 907, 0xc1569bbc}, {900, 914, 0xc1d5c89b}, {900, 921, 0xc21fb9b3},
	} {
		wantCents(t, c.p, c.q, bitsOf(c.bits))
	}
	random := newRandom()
	for range 4000 {
		p, q := 1+random.Int64N(impl.MaxDenominator), 1+random.Int64N(impl.MaxDenominator)
		wantCents(t, p, q, centsOf(p, q))
		cents, _ := impl.CentsOf(p, q)
		if near := 1200 * math.Log2(float64(p)/float64(q)); math.Abs(float64(cents)-near) > 1e-6*math.Abs(near)+2e-4 {
			t.Errorf("CentsOf %d and %d: got %v, want nearly %v", p, q, cents, near)
		}
	}
}

func TestP13CentsOfTheSameAndOfTwice(t *testing.T) {
	for p := int64(1); p <= impl.MaxDenominator; p++ {
		wantCents(t, p, p, 0)
		if 2*p <= impl.MaxDenominator {
			wantCents(t, 2*p, p, 1200)
			wantCents(t, p, 2*p, -1200)
		}
	}
}

func TestP13CentsOutOfRange(t *testing.T) {
	for _, n := range outside(impl.MaxDenominator) {
		for _, pair := range [][2]int64{{n, 1}, {1, n}, {n, n}, {n, impl.MaxDenominator}, {impl.MaxDenominator, n}} {
			cents, code := impl.CentsOf(pair[0], pair[1])
			if code != impl.ErrRange || !sameBits(cents, 0) {
				t.Errorf("CentsOf %v: got %v, %d", pair, cents, code)
			}
		}
	}
}
