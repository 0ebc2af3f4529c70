package tests

import (
	"math"
	"slices"
	"testing"

	"loop.example/g01173/impl"
)

func TestP13ValidTunings(t *testing.T) {
	for _, x := range validTunings() {
		if !impl.ValidTuning(x) {
			t.Errorf("%v is not valid", x)
		}
	}
	for _, x := range invalidTunings() {
		if impl.ValidTuning(x) {
			t.Errorf("%v is valid", x)
		}
	}
}

func TestP13TuningsWithManyDegrees(t *testing.T) {
	var degrees []float32
	for n := range 2 * impl.MaxDegrees {
		want(t, "ValidTuning", impl.ValidTuning(tuning(440, 1200, degrees...)), n >= 1 && n <= impl.MaxDegrees)
		degrees = append(degrees, float32(n))
	}
}

func TestP13TuningsThatAreNotValidAreRefused(t *testing.T) {
	for _, x := range invalidTunings() {
		// Other errors hold at the same time.
		for _, key := range append(noKeys, 0, 1, -1, impl.MaxKey) {
			wantNoKey(t, x, key, impl.ErrInvalid)
			wantNoPeriod(t, x, key, 44100, impl.ErrInvalid)
			wantNoPeriod(t, x, key, nan, impl.ErrInvalid)
			wantNoTurn(t, x, key, impl.ErrInvalid)
		}
		for _, hertz := range append(awkward(), 440) {
			wantNoNearest(t, x, hertz, impl.ErrInvalid)
		}
		want(t, "TuningText", impl.TuningText(x), "")
	}
}

func TestP13SameTunings(t *testing.T) {
	list := append(validTunings(), invalidTunings()...)
	for _, x := range list {
		y := x
		y.Degrees = slices.Clone(x.Degrees)
		want(t, "SameTuning", impl.SameTuning(x, y) && impl.SameTuning(y, x), true)
		for _, a := range append(awkward(), 440, 1200) {
			wantSameBut(t, x, x.Base, a, func(y *impl.Tuning) { y.Base = a })
			wantSameBut(t, x, x.Octave, a, func(y *impl.Tuning) { y.Octave = a })
			for i := range x.Degrees {
				wantSameBut(t, x, x.Degrees[i], a, func(y *impl.Tuning) { y.Degrees[i] = a })
			}
		}
		y.Degrees = append(y.Degrees, 7)
		want(t, "a further degree", impl.SameTuning(x, y) || impl.SameTuning(y, x), false)
		if n := len(x.Degrees); n > 0 {
			y.Degrees = x.Degrees[:n-1]
			want(t, "a degree less", impl.SameTuning(x, y) || impl.SameTuning(y, x), false)
		}
	}
	none, empty := tuning(440, 1200), impl.Tuning{Base: 440, Octave: 1200, Degrees: []float32{}}
	want(t, "nil and empty", impl.SameTuning(none, empty) && impl.SameTuning(empty, none), true)
	want(t, "NaN", impl.SameTuning(tuning(nan, otherNaN, nan), tuning(otherNaN, nan, otherNaN)), true)
}

// wantSameBut changes a number that was old to a.
func wantSameBut(t *testing.T, x impl.Tuning, old, a float32, change func(y *impl.Tuning)) {
	t.Helper()
	y := x
	y.Degrees = slices.Clone(x.Degrees)
	change(&y)
	want(t, "SameTuning", impl.SameTuning(x, y), sameBits(old, a))
	want(t, "SameTuning", impl.SameTuning(y, x), sameBits(old, a))
}

func TestP13EqualTunings(t *testing.T) {
	for steps := int64(1); steps <= impl.MaxDegrees; steps++ {
		for _, base := range []float32{1, 440, above(1), below(20000), 20000} {
			x, code := impl.EqualTuning(base, steps)
			want(t, "EqualTuning", code, impl.OK)
			expected := tuning(base, 1200)
			for i := range steps {
				expected.Degrees = append(expected.Degrees, quoOf(proOf(1200, float32(i)), float32(steps)))
			}
			wantTuning(t, "EqualTuning", x, expected)
			want(t, "ValidTuning", impl.ValidTuning(x), true)
		}
	}
}

func TestP13EqualTuningsThatWereCalculated(t *testing.T) {
	for _, bits := range [][]uint32{
		{0}, {0x00000000, 0x432b6db7, 0x43ab6db7, 0x44009249, 0x442b6db7, 0x44564925, 0x44809249},
		{0x00000000, 0x42c80000, 0x43480000, 0x43960000, 0x43c80000, 0x43fa0000, 0x44160000, 0x442f0000, 0x44480000, 0x44610000, 0x447a0000, 0x44898000},
		{0x00000000, 0x421ad6b6, 0x429ad6b6, 0x42e84211, 0x431ad6b6, 0x43418c63, 0x43684211, 0x43877bdf, 0x439ad6b6, 0x43ae318c, 0x43c18c63, 0x43d4e73a, 0x43e84211, 0x43fb9ce7, 0x44077bdf, 0x4411294a,
			0x441ad6b6, 0x44248421, 0x442e318c, 0x4437def8, 0x44418c63, 0x444b39ce, 0x4454e73a, 0x445e94a5, 0x44684211, 0x4471ef7c, 0x447b9ce7, 0x4482a529, 0x44877bdf, 0x448c5295, 0x4491294a},
	} {
		wantTuning(t, "EqualTuning", equalTuning(440, int64(len(bits))), tuning(440, 1200, samplesOfBits(bits...)...))
	}
}

func wantNoEqual(t *testing.T, base float32, steps int64) {
	t.Helper()
	x, code := impl.EqualTuning(base, steps)
	if code != impl.ErrRange {
		t.Errorf("EqualTuning %v, %d: got %d", base, steps, code)
	}
	wantTuning(t, "with an error", x, impl.Tuning{})
}

func TestP13EqualTuningsOutOfRange(t *testing.T) {
	for _, steps := range outside(impl.MaxDegrees) {
		wantNoEqual(t, 440, steps)
		wantNoEqual(t, nan, steps)
	}
	for _, base := range noBases {
		for _, steps := range []int64{1, 12, impl.MaxDegrees} {
			wantNoEqual(t, base, steps)
		}
	}
}

func wantRatios(t *testing.T, base float32, ratios [][2]int64, cents []float32) {
	t.Helper()
	x, code := impl.RatioTuning(base, ratios)
	want(t, "RatioTuning", code, impl.OK)
	wantTuning(t, "RatioTuning", x, tuning(base, 1200, cents...))
	want(t, "ValidTuning", impl.ValidTuning(x), true)
}

func TestP13RatioTunings(t *testing.T) {
	just := samplesOfBits(justCents...)
	wantRatios(t, 440, [][2]int64{{1, 1}}, []float32{0})
	wantRatios(t, 1, [][2]int64{{1000, 1000}, {3, 3}}, []float32{0})
	wantRatios(t, 20000, [][2]int64{{3, 2}, {1, 1}}, []float32{0, just[7]})
	wantRatios(t, 100, [][2]int64{{1, 1}, {3, 2}, {1, 1}}, []float32{0, just[7]})
	wantRatios(t, 440, [][2]int64{{6, 4}, {2, 2}, {3, 2}, {300, 200}, {7, 7}, {999, 666}}, []float32{0, just[7]})
	wantRatios(t, 440, [][2]int64{{999, 500}, {1, 1}, {1000, 999}}, []float32{0, centsOf(1000, 999), centsOf(999, 500)})
	wantRatios(t, 440, justRatios, just)
	ratios := slices.Clone(justRatios)
	slices.Reverse(ratios)
	wantRatios(t, 440, ratios, just)
	random := newRandom()
	for range 200 {
		random.Shuffle(len(ratios), func(i, j int) { ratios[i], ratios[j] = ratios[j], ratios[i] })
		again := append(slices.Clone(ratios), ratios[:random.IntN(len(ratios))]...)
		wantRatios(t, 440, again, just)
	}
}

func TestP13RatioTuningsWithAllDegrees(t *testing.T) {
	var ratios [][2]int64
	var cents []float32
	for p := int64(100); p < 100+impl.MaxDegrees; p++ {
		ratios = slices.Insert(ratios, len(ratios)/2, [2]int64{p, 100})
		cents = append(cents, centsOf(p, 100))
	}
	wantRatios(t, 440, ratios, cents)
	wantRatios(t, 440, slices.Repeat([][2]int64{{5, 5}}, impl.MaxDegrees), []float32{0})
}

func TestP13RatioTuningsHaveTheirRatios(t *testing.T) {
	x, code := impl.RatioTuning(300, justRatios)
	want(t, "RatioTuning", code, impl.OK)
	for i, ratio := range justRatios {
		hertz, _ := impl.KeyHertz(x, int64(i))
		if near := 300 * float64(ratio[0]) / float64(ratio[1]); math.Abs(float64(hertz)-near) > 2e-7*near {
			t.Errorf("key %d: got %v, want nearly %v", i, hertz, near)
		}
	}
}

func wantNoRatios(t *testing.T, base float32, ratios [][2]int64, expected int64) {
	t.Helper()
	x, code := impl.RatioTuning(base, ratios)
	if code != expected {
		t.Errorf("RatioTuning %v, %v: got %d, want %d", base, ratios, code, expected)
	}
	wantTuning(t, "with an error", x, impl.Tuning{})
}

func TestP13RatioTuningsOutOfRange(t *testing.T) {
	for _, base := range noBases {
		wantNoRatios(t, base, justRatios, impl.ErrRange)
		wantNoRatios(t, base, [][2]int64{{1, 1}}, impl.ErrRange)
	}
	for _, n := range outside(impl.MaxDenominator) {
		for i := range 3 {
			for k := range 2 {
				ratios := [][2]int64{{1, 1}, {5, 4}, {3, 2}}
				ratios[i][k] = n
				wantNoRatios(t, 440, ratios, impl.ErrRange)
			}
		}
	}
	for _, ratios := range [][][2]int64{
		nil, {}, {{3, 2}}, {{5, 4}, {3, 2}}, {{1, 2}}, {{2, 1}}, {{1, 1}, {2, 1}}, {{2, 1}, {1, 1}}, {{1, 1}, {1, 2}}, {{1, 1}, {999, 1000}}, {{999, 1000}, {1, 1}}, {{1, 1}, {3, 2}, {4, 3}, {600, 300}}, {{1, 1}, {3, 1}}, {{1, 1}, {1000, 1}}, {{1, 1000}, {1, 1}}, {{1, 1}, {1000, 499}},
	} {
		wantNoRatios(t, 440, ratios, impl.ErrRange)
		wantNoRatios(t, nan, ratios, impl.ErrRange)
	}
}

func TestP13TooManyRatios(t *testing.T) {
	for _, count := range []int{impl.MaxDegrees + 1, 2 * impl.MaxDegrees, 100000} {
		for _, ratio := range [][2]int64{{1, 1}, {3, 2}, {0, 1}, {1, math.MinInt64}} {
			for _, base := range []float32{440, 0, nan} {
				wantNoRatios(t, base, slices.Repeat([][2]int64{ratio}, count), impl.ErrLimit)
			}
		}
	}
}

func TestP13TurnedTunings(t *testing.T) {
	refused := 0
	for _, x := range validTunings() {
		for i := range x.Degrees {
			expected := turnedOf(x, i)
			if !impl.ValidTuning(expected) {
				wantNoTurn(t, x, int64(i), impl.ErrState)
				refused++
				continue
			}
			y, code := impl.TurnTuning(x, int64(i))
			want(t, "TurnTuning", code, impl.OK)
			wantTuning(t, "TurnTuning", y, expected)
			want(t, "ValidTuning", impl.ValidTuning(y), true)
			want(t, "degrees", len(y.Degrees), len(x.Degrees))
		}
		y, code := impl.TurnTuning(x, 0)
		want(t, "TurnTuning", code, impl.OK)
		wantTuning(t, "turned to its first degree", y, x)
	}
	if refused < 20 {
		t.Errorf("only %d tunings are refused", refused)
	}
}

func TestP13TurnedTuningsThatWereCalculated(t *testing.T) {
	// Another order of the sums and differences makes other numbers.
	for _, c := range []struct {
		octave        uint32
		degrees       []uint32
		base          uint32
		turnedDegrees []uint32
	}{
		{0x4505fa94, []uint32{0, 0x44a8a28b, 0x44af5928, 0x44d820ed}, 0x449550b0, []uint32{0, 0x43cf50ec, 0x44dc76c7, 0x44e32d63}},
		{0x446ddc62, []uint32{0, 0x43735db8, 0x4429b73f, 0x4443c348}, 0x442ce9ba, []uint32{0, 0x43286468, 0x43cde110, 0x4453d058}},
		{0x43d1c274, []uint32{0, 0x4259c7e3, 0x43975fbf, 0x43c36d4e}, 0x4409dc6f, []uint32{0, 0x41e55260, 0x42a63888, 0x43a5b4e6}},
	} {
		x, code := impl.TurnTuning(tuning(440, bitsOf(c.octave), samplesOfBits(c.degrees...)...), 3)
		want(t, "TurnTuning", code, impl.OK)
		wantTuning(t, "TurnTuning", x, tuning(bitsOf(c.base), bitsOf(c.octave), samplesOfBits(c.turnedDegrees...)...))
	}
}

func TestP13TurnedTuningsHaveTheSameKeys(t *testing.T) {
	for _, x := range []impl.Tuning{justTuning(), equalTuning(440, 12), equalTuning(100, 7), equalTuning(50, 31), tuning(200, 1902, 0, 100, 700.5, 1901)} {
		for i := range x.Degrees {
			y, code := impl.TurnTuning(x, int64(i))
			want(t, "TurnTuning", code, impl.OK)
			for key := int64(-60); key <= 60; key++ {
				a, _ := impl.KeyHertz(x, key+int64(i))
				b, _ := impl.KeyHertz(y, key)
				if math.Abs(float64(a)-float64(b)) > 2e-6*float64(a) {
					t.Errorf("key %d: got %v, want nearly %v", key, b, a)
				}
			}
		}
	}
}

func wantNoTurn(t *testing.T, x impl.Tuning, degree, expected int64) {
	t.Helper()
	y, code := impl.TurnTuning(x, degree)
	if code != expected {
		t.Errorf("TurnTuning %v, %d: got %d, want %d", x, degree, code, expected)
	}
	wantTuning(t, "with an error", y, impl.Tuning{})
}

func TestP13DegreesOutOfRange(t *testing.T) {
	for _, x := range validTunings() {
		n := int64(len(x.Degrees))
		for _, degree := range append(noKeys, -1, -2, -impl.MaxKey, n, n+1, impl.MaxDegrees, impl.MaxKey) {
			if degree < 0 || degree >= n {
				wantNoTurn(t, x, degree, impl.ErrRange)
			}
		}
	}
}

func TestP13TuningsThatCannotBeTurned(t *testing.T) {
	for _, c := range []struct {
		x      impl.Tuning
		degree int64
	}{
		// The base is too great.
		{tuning(20000, 1200, 0, 600), 1}, {tuning(15000, 1200, 0, 100, 600), 2}, {tuning(6000, 4800, 0, 2400), 1},
		// Degrees become equal.
		{thinTuning(), 3}, {tuning(440, 1200, 0, 1e-20, 600), 2}, {tuning(440, 1200, 0, 600, above(600), 601, 1199), 4},
		// The last one becomes Octave.
		{thinTuning(), 1}, {tuning(440, 1200, 0, 1e-20), 1}, {tuning(440, 1200, 0, leastSample), 1},
	} {
		wantNoTurn(t, c.x, c.degree, impl.ErrState)
	}
	// An octave higher than the greatest base, or just not.
	x := tuning(10000, 2400, 0, 1200)
	y, code := impl.TurnTuning(x, 1)
	want(t, "TurnTuning", code, impl.OK)
	wantTuning(t, "TurnTuning", y, tuning(20000, 2400, 0, 1200))
	x.Base = above(x.Base)
	wantNoTurn(t, x, 1, impl.ErrState)
}
