package tests

import (
	"math"
	"math/big"
	"testing"

	"loop.example/g01173/impl"
)

// sinesOfBits have been found apart from the program, with rational numbers.
var sinesOfBits = [][2]uint32{
	{0x00000000, 0x00000000}, {0x80000000, 0x00000000}, {0x00000001, 0x00000006}, {0x80000001, 0x80000000},
	{0x007fffff, 0x01c90fd9}, {0x00800000, 0x01c90fdb}, {0x3d800000, 0x3ec3ef15}, {0x3dcccccd, 0x3f167918},
	{0x3e000000, 0x3f3504f3}, {0x3e2aaaab, 0x3f5db3d8}, {0x3e7fffff, 0x3f800000}, {0x3e800000, 0x3f800000},
	{0x3e800001, 0x3f800000}, {0x3eaaaaab, 0x3f5db3d7}, {0x3ec00000, 0x3f3504f3}, {0x3effffff, 0x34490fdb},
	{0x3f000000, 0x80000000}, {0x3f000001, 0xb4c90fdb}, {0x3f19999a, 0xbf16791a}, {0x3f400000, 0xbf800000},
	{0x3f400001, 0xbf800000}, {0x3f7fffff, 0xb4c90fdb}, {0x3f800000, 0x00000000}, {0x3f8ccccd, 0x3f16791a},
	{0xbdcccccd, 0xbf167918}, {0xbe800000, 0xbf800000}, {0xbf000000, 0x80000000}, {0xbf19999a, 0x3f16791a},
	{0xbf400000, 0x3f800000}, {0xbf800000, 0x00000000}, {0xb3000000, 0xb4490fdb}, {0xa4800000, 0x80000000},
	{0xa3800000, 0x80000000}, {0x40490fdb, 0x3f46dfe0}, {0xc2f6e979, 0xbe8bbf57}, {0x4b000001, 0x00000000},
	{0xcb000001, 0x00000000}, {0x7f7fffff, 0x00000000}, {0xff7fffff, 0x00000000},
	// With one step less, or with 0.5 - f left out, these have another last bit.
	{0x3e434f37, 0x3f6e7421}, {0x3e5d0d36, 0x3f7a22f0}, {0x3e915212, 0x3f7a3d1c}, {0x3e98b49f, 0x3f7452f9},
}

func TestP3SinesToTheLastBit(t *testing.T) {
	for _, c := range sinesOfBits {
		turns := math.Float32frombits(c[0])
		wantSample(t, "SineOf", impl.SineOf(turns), math.Float32frombits(c[1]))
	}
	for _, turns := range []float32{nan, otherNaN, infinite, -infinite} {
		wantSample(t, "SineOf", impl.SineOf(turns), nan)
	}
}

// wide is a number that is rounded as wide numbers are, but never fused.
func wide(x float64) *big.Float {
	return new(big.Float).SetPrec(53).SetFloat64(x)
}

// roundedSine follows the document with numbers of 53 bits.
func roundedSine(turns float32) float32 {
	whole := math.Floor(float64(turns))
	f := wide(0).Sub(wide(float64(turns)), wide(whole))
	negative := f.Cmp(wide(0.5)) >= 0
	if negative {
		f.Sub(f, wide(0.5))
	}
	if f.Cmp(wide(0.25)) > 0 {
		f.Sub(wide(0.5), f)
	}
	x := wide(0).Mul(wide(6.283185307179586), f)
	y := wide(0).Mul(x, x)
	s := wide(1)
	for m := 8.0; m >= 1; m-- {
		q := wide(0).Quo(y, wide(2*m*(2*m+1)))
		s.Sub(wide(1), q.Mul(q, s))
	}
	s.Mul(s, x)
	if negative {
		s.Neg(s)
	}
	a, _ := s.Float64()
	return float32(a)
}

func TestP3SinesAreRoundedAtEachStep(t *testing.T) {
	r := newRandom()
	for range 20000 {
		turns := float32(8*r.Float64() - 4)
		wantSample(t, "SineOf", impl.SineOf(turns), roundedSine(turns))
	}
	for _, turns := range awkward() {
		if turns-turns == 0 {
			wantSample(t, "SineOf", impl.SineOf(turns), roundedSine(turns))
		}
	}
}

func TestP3SinesAreNearlySines(t *testing.T) {
	for i := -4096; i <= 4096; i++ {
		turns := float32(i) / 1000
		got, near := float64(impl.SineOf(turns)), math.Sin(2*math.Pi*float64(turns))
		if math.Abs(got-near) > 1e-6 || math.Abs(got) > 1 {
			t.Errorf("SineOf %v: got %v, want nearly %v", turns, got, near)
		}
	}
}

func TestP3SinesAreOpposite(t *testing.T) {
	r := newRandom()
	for i := range 20000 {
		turns := float32(r.NormFloat64())
		if i%2 == 0 {
			turns = float32(i) / 256
		}
		if a, b := impl.SineOf(turns), impl.SineOf(-turns); a != -b {
			t.Errorf("SineOf %v: got %v, and of the opposite %v", turns, a, b)
		}
	}
}

func TestP3SinesOfWholeAndHalfTurns(t *testing.T) {
	for i := -1000; i <= 1000; i++ {
		wantSample(t, "whole", impl.SineOf(float32(i)), 0)
		wantSample(t, "a quarter more", impl.SineOf(float32(i)+0.25), 1)
		wantSample(t, "a half more", impl.SineOf(float32(i)+0.5), minusZero)
		wantSample(t, "three quarters more", impl.SineOf(float32(i)+0.75), -1)
	}
}

func TestP3TableHoldsSines(t *testing.T) {
	table := impl.SineTable()
	for i, a := range table {
		at := float32(i) / 256
		wantSample(t, "SineTable", a, impl.SineOf(at))
		got, code := impl.TableAt(table, at)
		want(t, "TableAt", code, impl.OK)
		wantSample(t, "TableAt", got, a)
	}
	r := newRandom()
	for range 5000 {
		at := float32(r.Float64())
		got, code := impl.TableAt(table, at)
		want(t, "TableAt", code, impl.OK)
		if near := impl.SineOf(at); math.Abs(float64(got-near)) > 1e-4 {
			t.Errorf("TableAt %v: got %v, want nearly %v", at, got, near)
		}
	}
}

func TestP3TableBetweenPlaces(t *testing.T) {
	table := impl.SineTable()
	for _, c := range [][2]uint32{
		{0x00000000, 0x00000000}, {0x00000001, 0x00000006}, {0x3dcccccd, 0x3f167651}, {0x3e800000, 0x3f800000}, {0x3eaaaaab, 0x3f5db00b},
		{0x3f000000, 0x80000000}, {0x3f19999a, 0xbf167653}, {0x3f7fffff, 0xb4c90000}, {0x3f800000, 0x00000000},
	} {
		got, code := impl.TableAt(table, math.Float32frombits(c[0]))
		want(t, "TableAt", code, impl.OK)
		wantSample(t, "TableAt", got, math.Float32frombits(c[1]))
	}
	r := newRandom()
	for range 5000 {
		at := float32(r.Float64())
		place := float64(at) * 256
		k := int(place)
		difference := float32(float64(table[k+1]) - float64(table[k]))
		product := float32((place - float64(k)) * float64(difference))
		got, _ := impl.TableAt(table, at)
		wantSample(t, "TableAt", got, float32(float64(table[k])+float64(product)))
	}
}

func TestP3TableAtItsEnds(t *testing.T) {
	table := impl.Table{}
	for i := range table {
		table[i] = float32(i)
	}
	table[256] = infinite
	for _, c := range []struct{ at, want float32 }{{0, 0}, {minusZero, 0}, {0.5, 128}, {0.501953125, 128.5}, {0.99609375, nan}, {1, infinite}} {
		got, code := impl.TableAt(table, c.at)
		want(t, "TableAt", code, impl.OK)
		wantSample(t, "TableAt", got, c.want)
	}
	for _, at := range []float32{-leastSample, -1, math.Nextafter32(1, 2), 1.5, greatest, -greatest, infinite, -infinite, nan} {
		got, code := impl.TableAt(table, at)
		want(t, "TableAt", code, impl.ErrRange)
		wantSample(t, "TableAt", got, 0)
	}
}

func TestP3NoiseIsBetween(t *testing.T) {
	seed := uint32(1)
	low, high := float32(0), float32(0)
	for range 200000 {
		a, next := impl.NextNoise(seed)
		if !(a >= -1 && a < 1) {
			t.Fatalf("NextNoise %d: got %v", seed, a)
		}
		low, high, seed = min(low, a), max(high, a), next
	}
	if low > -0.999 || high < 0.999 {
		t.Errorf("noise is between %v and %v", low, high)
	}
}

// seedBefore returns the seed whose next one is given: the odd factor has an
// inverse modulo 2 to the power 32.
func seedBefore(next uint32) uint32 {
	inverse := uint32(1)
	for range 5 {
		inverse *= 2 - 1974033781*inverse
	}
	return (next - 907633385) * inverse
}

func TestP3NoiseOfSeeds(t *testing.T) {
	for _, c := range []struct {
		next uint32
		want float32
	}{
		{0, -1}, {255, -1}, {256, -8388607.0 / 8388608}, {1<<31 - 1, -1.0 / 8388608}, {1 << 31, 0}, {1<<31 + 255, 0},
		{1<<31 + 256, 1.0 / 8388608}, {math.MaxUint32, 8388607.0 / 8388608},
	} {
		a, next := impl.NextNoise(seedBefore(c.next))
		want(t, "next seed", next, c.next)
		wantSample(t, "noise", a, c.want)
	}
	for _, c := range [][3]uint32{{0, 907633385, 0xbf13cd3c}, {1, 2881667166, 0x3eaf0b00}, {5, 2187867698, 0x3c9a0d80}, {4294967295, 3228566900, 0x3f00e00a}, {123456789, 3899375234, 0x3f50d77c}} {
		a, next := impl.NextNoise(c[0])
		want(t, "next seed", next, c[1])
		wantSample(t, "noise", a, math.Float32frombits(c[2]))
	}
}

func TestP3NoiseOfBlocks(t *testing.T) {
	b, seed := impl.NoiseBlock(0)
	wantBlock(t, "first block", b, noiseOf0)
	want(t, "seed behind it", seed, 2768765424)
	b, _ = impl.NoiseBlock(seed)
	wantBlock(t, "second block", b, noiseBehind0)
	for _, first := range []uint32{0, 1, 77, math.MaxUint32} {
		b, behind := impl.NoiseBlock(first)
		next := first
		for i := range b {
			var a float32
			a, next = impl.NextNoise(next)
			wantSample(t, "noise", b[i], a)
		}
		want(t, "seed behind it", behind, next)
	}
}
