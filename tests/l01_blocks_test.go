package tests

import (
	"math"
	"slices"
	"testing"

	"loop.example/g01173/impl"
)

// noiseOf0 and noiseBehind0 are the first 32 samples of noise of the seed 0,
// found apart from the program.
var noiseOf0 = blockOfBits([16]uint32{0xbf13cd3c, 0x3f62e678, 0x3f541616, 0xbb8b4e00, 0xbf5f64a0, 0xbe0b26a0, 0x3f1cfdd0, 0x3ecdd998, 0x3eee9f3c, 0xbed14a34, 0x3cffb940, 0xbe602f48, 0x3f6d55da, 0xbec99b4c, 0xbe580988, 0x3e942004})
var noiseBehind0 = blockOfBits([16]uint32{0x3cb99d40, 0xbebb6528, 0x3f3cf960, 0xbcba17c0, 0x3e481098, 0x3ec1ceac, 0x3f3b59ac, 0x3babb200, 0x3ecc26d0, 0xbeb14464, 0x3f03cb98, 0xbf41a3a0, 0x3e47cc18, 0xbedbade8, 0xbe84ce84, 0x3e6862b8})

func TestP2BlocksHaveTheirSamples(t *testing.T) {
	for _, n := range []int{0, 1, 2, 15, 16, 17, 31, 32, 33, impl.MaxSamples - 1, impl.MaxSamples} {
		samples := make([]float32, n)
		for i := range samples {
			samples[i] = awkward()[i%len(awkward())]
		}
		blocks, code := impl.BlocksOf(samples)
		want(t, "BlocksOf", code, impl.OK)
		want(t, "number of blocks", len(blocks), (n+15)/16)
		all := slices.Clone(samples)
		for len(all)%16 != 0 {
			all = append(all, 0)
		}
		for i, b := range blocks {
			wantSamples(t, "block", b[:], all[16*i:16*i+16])
		}
		for _, count := range []int{0, 1, n / 2, n, len(all)} {
			if count > len(all) {
				continue
			}
			back, code := impl.SamplesOf(blocks, int64(count))
			want(t, "SamplesOf", code, impl.OK)
			wantSamples(t, "samples", back, all[:count])
		}
	}
}

func TestP2BlocksHaveLimits(t *testing.T) {
	blocks, code := impl.BlocksOf(make([]float32, impl.MaxSamples+1))
	want(t, "one sample more", code, impl.ErrLimit)
	want(t, "its blocks", len(blocks), 0)
	full := make([]impl.Block, impl.MaxSamples/16)
	for _, c := range []struct {
		name   string
		blocks []impl.Block
		count  int64
		want   int64
	}{
		{"all of them", full, impl.MaxSamples, impl.OK},
		{"one more", full, impl.MaxSamples + 1, impl.ErrRange},
		{"less than none", full, -1, impl.ErrRange},
		{"the least count", full, math.MinInt64, impl.ErrRange},
		{"one more than one block has", full[:1], 17, impl.ErrRange},
		{"one of no block", nil, 1, impl.ErrRange},
		{"too many blocks", append(full, impl.Block{}), 0, impl.ErrLimit},
		{"too many blocks, and no such count", append(full, impl.Block{}), -1, impl.ErrLimit},
	} {
		samples, code := impl.SamplesOf(c.blocks, c.count)
		want(t, c.name, code, c.want)
		if code != impl.OK {
			want(t, c.name, len(samples), 0)
		}
	}
}

func TestP2BlocksAreComparedBySample(t *testing.T) {
	want(t, "NaN", impl.SameBlock(filled(nan), filled(otherNaN)), true)
	want(t, "0 and -0", impl.SameBlock(filled(0), filled(minusZero)), false)
	want(t, "silence", impl.IsSilent(impl.Block{}), true)
	want(t, "silence of -0", impl.IsSilent(filled(minusZero)), true)
	for i := range 16 {
		var b impl.Block
		b[i] = leastSample
		want(t, "one sample differs", impl.SameBlock(b, impl.Block{}), false)
		want(t, "itself", impl.SameBlock(b, b), true)
		want(t, "one sample sounds", impl.IsSilent(b), false)
		b[i] = nan
		want(t, "one sample is NaN", impl.IsSilent(b), false)
		want(t, "one sample is NaN in both", impl.SameBlock(b, b), true)
		b[i] = minusZero
		want(t, "one sample is -0", impl.SameBlock(b, impl.Block{}), false)
		want(t, "one sample is -0, silent", impl.IsSilent(b), true)
	}
}

func TestP2FlushedBlocksHaveNoSubnormals(t *testing.T) {
	r := newRandom()
	for range 200 {
		b := anyBlock(r)
		b[2], b[4], b[6] = leastSample, -mostSub, minusZero
		for i, a := range impl.FlushBlock(b) {
			wantSample(t, "FlushBlock", a, impl.FlushSample(b[i]))
			if a == 0 && math.Signbit(float64(a)) || a != 0 && math.Abs(float64(a)) < 0x1p-126 {
				t.Errorf("FlushBlock: got %v", a)
			}
		}
	}
}

func TestBlocksAreMixedAndScaled(t *testing.T) {
	mix := blockOfBits([16]uint32{0xbf0e0052, 0x3f0533e4, 0x3fc887bb, 0xbcdceb40, 0xbf2d607a, 0x3e7876b8, 0x3fac2bbe, 0x3ed08860, 0x3f5d6306, 0xbf41474c, 0x3f0bc962, 0xbf79af72, 0x3f8fa470, 0xbf52a49a, 0xbef0d348, 0x3f0428b0})
	wantBlock(t, "MixBlocks", impl.MixBlocks(noiseOf0, noiseBehind0), mix)
	third := blockOfBits([16]uint32{0xbe4511a6, 0x3e974450, 0x3e8d640f, 0xbab9bd56, 0xbe94edc0, 0xbd3988d6, 0x3e51526b, 0x3e093bbb, 0x3e1f14d3, 0xbe0b86ce, 0x3c2a7b80, 0xbd9574db, 0x3e9e393c, 0xbe066788, 0xbd90065b, 0x3dc58006})
	wantBlock(t, "ScaleBlock", impl.ScaleBlock(noiseOf0, float32(1)/3), third)
	wantBlock(t, "sums without bounds", impl.MixBlocks(filled(greatest), filled(greatest)), filled(infinite))
	wantBlock(t, "sums of opposites", impl.MixBlocks(filled(infinite), filled(-infinite)), filled(nan))
	wantBlock(t, "sums of -0", impl.MixBlocks(filled(minusZero), filled(minusZero)), filled(minusZero))
	wantBlock(t, "products with -0", impl.ScaleBlock(filled(1), minusZero), filled(minusZero))
	wantBlock(t, "products that are subnormal", impl.ScaleBlock(filled(leastNormal), 0.5), filled(math.Float32frombits(0x00400000)))
	wantBlock(t, "products that are less", impl.ScaleBlock(filled(leastSample), 0.5), filled(0))
	wantBlock(t, "products with infinite", impl.ScaleBlock(filled(0), infinite), filled(nan))
}

func TestBlocksAreRamped(t *testing.T) {
	ramp := blockOfBits([16]uint32{0xbd6c7b93, 0x3df9971e, 0x3e1475dc, 0xba6cd167, 0xbe5f64a0, 0xbd200605, 0x3e4c16c1, 0x3e153dc1, 0x3e3ee5c9, 0xbe3720ed, 0x3c72effc, 0xbde5ca10, 0x3f0288d2, 0xbe6ce345, 0xbe0705f5, 0x3e444405})
	wantBlock(t, "RampBlock", impl.RampBlock(noiseOf0, 0.1, 0.7), ramp)
	for i, a := range impl.RampBlock(filled(1), 0, 1) {
		wantSample(t, "from 0 to 1", a, float32(i)/16)
	}
	wantBlock(t, "from 2 to 2", impl.RampBlock(filled(3), 2, 2), filled(6))
	wantSample(t, "a difference without bounds", impl.RampBlock(filled(1), greatest, -greatest)[1], -infinite)
	wantBlock(t, "no difference", impl.RampBlock(filled(1), infinite, infinite), filled(nan))
}

// roundedRamp rounds each step by a conversion from wide to narrow, which is
// exact enough to leave only the one rounding that is asked for.
func roundedRamp(a, from, to float32, i int) float32 {
	difference := float32(float64(to) - float64(from))
	product := float32(float64(difference) * (float64(i) / 16))
	sum := float32(float64(from) + float64(product))
	return float32(float64(a) * float64(sum))
}

func TestRampsAreRoundedAtEachStep(t *testing.T) {
	r := newRandom()
	for range 500 {
		b := loudBlock(r)
		from, to := float32(r.Float64()), float32(3*r.Float64())
		for i, a := range impl.RampBlock(b, from, to) {
			wantSample(t, "RampBlock", a, roundedRamp(b[i], from, to, i))
		}
	}
}

func TestPeakPassesNaN(t *testing.T) {
	b := impl.Block{0.25, nan, -0.75, otherNaN, 0.5}
	wantSample(t, "with NaN", impl.PeakOf(b), 0.75)
	wantSample(t, "NaN alone", impl.PeakOf(filled(nan)), 0)
	wantSample(t, "-0 alone", impl.PeakOf(filled(minusZero)), 0)
	wantSample(t, "silence", impl.PeakOf(impl.Block{}), 0)
	wantSample(t, "subnormal", impl.PeakOf(filled(-leastSample)), leastSample)
	wantSample(t, "infinite", impl.PeakOf(impl.Block{1, -infinite, greatest}), infinite)
	for i := range 16 {
		var c impl.Block
		c[i] = -2
		wantSample(t, "at each index", impl.PeakOf(c), 2)
	}
}

func TestSumsOfProducts(t *testing.T) {
	wantSample(t, "EnergyOf", impl.EnergyOf(noiseOf0), math.Float32frombits(0x40965d76))
	wantSample(t, "DotOf", impl.DotOf(noiseOf0, noiseBehind0), math.Float32frombits(0x3fbdbee9))
	wantSample(t, "energy of silence", impl.EnergyOf(filled(minusZero)), 0)
	wantSample(t, "energy of NaN", impl.EnergyOf(filled(nan)), nan)
	wantSample(t, "energy without bounds", impl.EnergyOf(filled(greatest)), infinite)
	wantSample(t, "products that are all -0", impl.DotOf(filled(0), filled(-1)), minusZero)
	wantSample(t, "opposites without bounds", impl.DotOf(impl.Block{infinite, infinite}, impl.Block{1, -1}), nan)
	wantSample(t, "from left to right", impl.DotOf(impl.Block{1e8, 1, -1e8, 1}, filled(1)), 1)
	for i := range 16 {
		var b impl.Block
		b[i] = 3
		wantSample(t, "energy at each index", impl.EnergyOf(b), 9)
		wantSample(t, "product at each index", impl.DotOf(b, filled(2)), 6)
	}
}

func TestProductsAreRoundedBeforeTheyAreAdded(t *testing.T) {
	a := float32(1 + 0x1p-12)
	square := float32(1 + 0x1p-11)
	wantSample(t, "the second product", impl.DotOf(impl.Block{-square, a}, impl.Block{1, a}), 0)
	wantSample(t, "the first product", impl.DotOf(impl.Block{a, -square}, impl.Block{a, 1}), 0)
	r := newRandom()
	for range 500 {
		b, c := loudBlock(r), loudBlock(r)
		sum := float32(float64(b[0]) * float64(c[0]))
		for i := 1; i < 16; i++ {
			sum = float32(float64(sum) + float64(float32(float64(b[i])*float64(c[i]))))
		}
		wantSample(t, "DotOf", impl.DotOf(b, c), sum)
	}
}
