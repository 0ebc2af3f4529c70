package tests

import (
	"math"
	"math/big"
	"slices"
	"testing"

	"loop.example/g01173/impl"
)

// tunings lacks all that is for what sounds.
func tunings() model[impl.Tuning] {
	return model[impl.Tuning]{
		name: "tuning", isValid: impl.ValidTuning, isSame: impl.SameTuning, text: impl.TuningText, read: impl.ReadTuning,
		parts: func(x *impl.Tuning) parts {
			return parts{numbers: []*float32{&x.Base, &x.Octave}, list: &x.Degrees}
		},
	}
}

func wantTuning(t *testing.T, name string, got, expected impl.Tuning) {
	t.Helper()
	tunings().want(t, name, got, expected)
}

func tuning(base, octave float32, degrees ...float32) impl.Tuning {
	return impl.Tuning{Base: base, Octave: octave, Degrees: degrees}
}

// equalTuning is for arguments that EqualTuning takes.
func equalTuning(base float32, steps int64) impl.Tuning {
	x, _ := impl.EqualTuning(base, steps)
	return x
}

func bitsOf(bits uint32) float32 {
	return math.Float32frombits(bits)
}

// above and below are the next numbers.
func above(a float32) float32 { return math.Nextafter32(a, infinite) }
func below(a float32) float32 { return math.Nextafter32(a, -infinite) }

var (
	justRatios = [][2]int64{{1, 1}, {16, 15}, {9, 8}, {6, 5}, {5, 4}, {4, 3}, {45, 32}, {3, 2}, {8, 5}, {5, 3}, {9, 5}, {15, 8}}
	justCents  = []uint32{0x00000000, 0x42df7677, 0x434be8f6, 0x439dd218, 0x43c12827, 0x43f905c4, 0x44138e51, 0x442f7d1e, 0x444b6bec, 0x445d16f4, 0x447e6629, 0x44880899}
	noBases    = []float32{below(1), 0, minusZero, leastSample, -1, -440, above(20000), greatest, -greatest, infinite, -infinite, nan, otherNaN}
	noOctaves  = []float32{below(1), 0, minusZero, leastSample, -1, -1200, above(4800), greatest, -greatest, infinite, -infinite, nan, otherNaN}
	noKeys     = []int64{-impl.MaxKey - 1, impl.MaxKey + 1, 1 << 32, 1<<32 + 1, -1 << 32, math.MaxInt64, math.MinInt64}
)

// outside has whole numbers that are not 1 to most.
func outside(most int64) []int64 {
	return []int64{0, -1, most + 1, 1 << 32, 1<<32 + 1, math.MaxInt64, math.MinInt64}
}

func justTuning() impl.Tuning {
	return tuning(261.6256, 1200, samplesOfBits(justCents...)...)
}

// thinTuning has degrees that are lost beside an octave.
func thinTuning() impl.Tuning {
	return tuning(440, 1200, 0, leastSample, 1e-20, below(1200))
}

// validTunings has tunings at all bounds, with degrees as near to each other, to
// 0 and to an octave as they may be.
func validTunings() []impl.Tuning {
	list := []impl.Tuning{
		tuning(1, 1, 0), tuning(20000, 4800, 0), tuning(1, 4800, 0), tuning(20000, 1, 0), tuning(440, 1200, 0, 100), justTuning(), thinTuning(),
		tuning(440, 1, 0, leastSample, mostSub, leastNormal, 0.5, below(1)), tuning(440, 4800, 0, 1, above(1), 4799, below(4800)), tuning(440, 1200, 0, below(1200)),
		tuning(20000, 1200, 0, leastSample), tuning(1, 1200, 0, 600), tuning(10000, 1200, 0, 600, 1199),
	}
	for _, steps := range []int64{1, 2, 5, 7, 12, 19, impl.MaxDegrees} {
		list = append(list, equalTuning(432.1, steps))
	}
	random := newRandom()
	for i := range 60 {
		x := tuning(float32(1+19999*random.Float64()), float32(1+4799*random.Float64()), 0)
		for range i % impl.MaxDegrees {
			x.Degrees = append(x.Degrees, x.Octave*float32(0.001+0.99*random.Float64()))
		}
		slices.Sort(x.Degrees)
		x.Degrees = slices.Compact(x.Degrees)
		list = append(list, x)
	}
	return list
}

// invalidTunings has tunings that break one rule each.
func invalidTunings() []impl.Tuning {
	list := []impl.Tuning{{}, {Degrees: []float32{}}, tuning(440, 1200), {Base: 440, Octave: 1200, Degrees: []float32{}}}
	for _, a := range noBases {
		list = append(list, tuning(a, 1200, 0, 100), tuning(a, 1, 0))
	}
	for _, a := range noOctaves {
		list = append(list, tuning(440, a, 0))
	}
	long := tuning(440, 1200)
	for i := range impl.MaxDegrees + 1 {
		long.Degrees = append(long.Degrees, float32(i))
	}
	list = append(list, long)
	for _, a := range []float32{minusZero, leastSample, -leastSample, -1, 1, 50, nan, otherNaN, infinite, -infinite} {
		list = append(list, tuning(440, 1200, a), tuning(440, 1200, a, 100), tuning(440, 1200, a, 100, 200))
	}
	for i := 1; i < 5; i++ {
		for _, a := range []float32{float32(100*i - 100), below(float32(100*i - 100)), 0, minusZero, -1, 1200, above(1200), greatest, infinite, -infinite, nan, otherNaN} {
			x := tuning(440, 1200, 0, 100, 200, 300, 400)
			x.Degrees[i] = a
			list = append(list, x)
		}
	}
	return append(list, tuning(440, 1, 0, 1), tuning(440, 4800, 0, 4800), tuning(440, 1, 0, 0), tuning(440, 1200, 0, minusZero), tuning(440, 1200, 0, 200, 100), tuning(440, 1200, 0, 1199, 1200), tuning(440, 300, 0, 100, 200, 300))
}

// powerOf is TwoTo of the document, written down once more.
func powerOf(x float32) float32 {
	k := math.Floor(float64(x))
	y := wide(0).Sub(wide(float64(x)), wide(k))
	y.Mul(y, wide(0.6931471805599453))
	s := wide(1)
	for m := 14.0; m >= 1; m-- {
		q := wide(0).Quo(y, wide(m))
		s.Add(wide(1), q.Mul(q, s))
	}
	a, _ := s.SetMantExp(s, int(k)).Float64()
	return float32(a)
}

// logOf is LogTwo of the document, written down once more.
func logOf(x float32) float32 {
	z, sum := wide(float64(x)), 0.0
	for ; z.Cmp(wide(2)) >= 0; sum++ {
		z.Quo(z, wide(2))
	}
	for ; z.Cmp(wide(1)) < 0; sum-- {
		z.Mul(z, wide(2))
	}
	for i := 1; i <= 30; i++ {
		z.Mul(z, z)
		if z.Cmp(wide(2)) >= 0 {
			z.Quo(z, wide(2))
			sum += 1 / math.Pow(2, float64(i))
		}
	}
	return float32(sum)
}

func centsOf(p, q int64) float32 {
	return proOf(1200, logOf(quoOf(float32(p), float32(q))))
}

// centsOfKey is KeyCents of the document, written down once more.
func centsOfKey(x impl.Tuning, key int64) float32 {
	n := int64(len(x.Degrees))
	octaves := int64(math.Floor(float64(key) / float64(n)))
	return sumOf(proOf(x.Octave, float32(octaves)), x.Degrees[key-n*octaves])
}

// hertzOfKey is KeyHertz of the document, written down once more; it is false if
// there is none.
func hertzOfKey(x impl.Tuning, key int64) (float32, bool) {
	at := quoOf(centsOfKey(x, key), 1200)
	if at < -120 || at > 120 {
		return 0, false
	}
	return proOf(x.Base, powerOf(at)), true
}

// nearestOf goes from the greatest key to the least one.
func nearestOf(x impl.Tuning, hertz float32) int64 {
	var nearest int64
	least := float64(infinite)
	for key := int64(impl.MaxKey); key >= -impl.MaxKey; key-- {
		own, ok := hertzOfKey(x, key)
		if far := math.Abs(float64(difOf(own, hertz))); ok && far <= least {
			nearest, least = key, far
		}
	}
	return nearest
}

// turnedOf is TurnTuning of the document, written down once more; what it returns
// need not be valid.
func turnedOf(x impl.Tuning, degree int) impl.Tuning {
	y := impl.Tuning{Octave: x.Octave}
	y.Base, _ = hertzOfKey(x, int64(degree))
	n := len(x.Degrees)
	for i := degree; i < degree+n; i++ {
		a := x.Degrees[i%n]
		if i >= n {
			a = sumOf(a, x.Octave)
		}
		y.Degrees = append(y.Degrees, difOf(a, x.Degrees[degree]))
	}
	return y
}

// glideOf is GlideOf of the document, written down once more, for arguments that
// it takes.
func glideOf(from, to float32, count int) []float32 {
	factor := powerOf(quoOf(logOf(quoOf(to, from)), float32(count)))
	list := []float32{from}
	for i := 1; i < count; i++ {
		list = append(list, proOf(list[i-1], factor))
	}
	return list
}

// ratioOf is BestRatio of the document, found with rational numbers.
func ratioOf(x float32, most int64) (p, q int64) {
	exact := new(big.Rat).SetFloat64(float64(x))
	var least *big.Rat
	for d := int64(1); d <= most; d++ {
		n := nearestWhole(new(big.Rat).Mul(exact, big.NewRat(d, 1)))
		far := new(big.Rat).SetFloat64(float64(n) / float64(d))
		far.Abs(far.Sub(far, exact))
		if least == nil || far.Cmp(least) < 0 {
			p, q, least = n, d, far
		}
	}
	return p, q
}

// nearestWhole rounds a number that is not negative, ties to the even one.
func nearestWhole(x *big.Rat) int64 {
	whole := new(big.Int).Quo(x.Num(), x.Denom()).Int64()
	rest := new(big.Rat).Sub(x, big.NewRat(whole, 1))
	half := rest.Cmp(big.NewRat(1, 2))
	if half > 0 || half == 0 && whole%2 == 1 {
		whole++
	}
	return whole
}
