package tests

import (
	"math"
	"testing"

	"loop.example/g01173/impl"
)

// settled has filters of all kinds, and what they make of two blocks of noise
// from the seed 7 on, calculated apart from the program.
type settled struct {
	name          string
	filter        impl.Filter
	c             [3]uint32
	first, second [16]uint32
	s             [2]uint32
}

func settledFilters() []settled {
	return []settled{
		{"OnePole 0.9", impl.OnePole(0.9),
			[3]uint32{0x3dccccd0, 0x3f666666, 0x00000000},
			[16]uint32{0xbc69da5d, 0xbd84875f, 0xbddbb31a, 0xbe4822d6, 0xbe842089, 0xbe61f62f, 0xbe8b2e00, 0xbe9d59c9, 0xbeabeeb3, 0xbe72311b, 0xbe9b2970, 0xbe83632d, 0xbe596afe, 0xbe15ce0b, 0xbd37a06c, 0xbdab44f6},
			[16]uint32{0x3c1e25f8, 0xbd3c55d2, 0xbc1b20a0, 0x3d1350b5, 0xbd744db1, 0xbd507d2b, 0xbe07a723, 0xbcf9a480, 0xbd05b93d, 0xbc179f7c, 0xbdd16ef3, 0xbdca61e3, 0xbe22c5f6, 0xbd77b696, 0xbcb99742, 0xbcb37fc9},
			[2]uint32{0xbcb37fc9, 0x00000000}},
		{"OneZero 0.3", impl.OneZero(0.3),
			[3]uint32{0x3f333333, 0x3e99999a, 0x00000000},
			[16]uint32{0xbdcc9f0e, 0xbecfcf2c, 0xbeff681c, 0xbf56e230, 0xbf5f2f13, 0xbe295351, 0xbef4ad8e, 0xbf288e92, 0xbf1a3dfe, 0x3e908d6e, 0xbede4c8e, 0xbe217000, 0x3e371afa, 0x3ebd2b24, 0x3f3e0268, 0xbd2de930},
			[16]uint32{0x3eedddba, 0xbe02fdb4, 0x3d734878, 0x3ed07622, 0xbf02b8d9, 0xbe835f1c, 0xbf192a5a, 0x3eb8f93b, 0x3e6b3957, 0x3e003dc2, 0xbf18dec9, 0xbea897e7, 0xbf02afcc, 0x3ebc6f56, 0x3ef0bac6, 0x3dad66d9},
			[2]uint32{0xbc795900, 0x00000000}},
		{"AllpassFor 0.7", allpassFor(0.7),
			[3]uint32{0x3e34b4b5, 0x00000000, 0x00000000},
			[16]uint32{0xbcce5740, 0xbe6b548c, 0xbf108ba3, 0xbf10b338, 0xbf84613e, 0xbf1e5f17, 0x3dc43da0, 0xbf5c209c, 0xbf14595d, 0xbebf704c, 0x3f105d61, 0xbf791130, 0x3ebb52d2, 0x3e4da10a, 0x3f10d5ae, 0x3f312ecc},
			[16]uint32{0xbecf6734, 0x3f52fdf7, 0xbf22c3ef, 0x3f028557, 0x3e452420, 0xbf72ff09, 0x3d2d875a, 0xbf37ad0a, 0x3f80a156, 0xbe46af05, 0x3d8edd42, 0xbf76af83, 0xbcaee582, 0xbf0cfab0, 0x3f7aa6f3, 0x3e11af5c},
			[2]uint32{0xbc795900, 0x3e11af5c}},
		{"TwoPole 0.1 0.95", impl.TwoPole(0.1, 0.95),
			[3]uint32{0x3d4cccd0, 0xbfc4c0c0, 0x3f670a3d},
			[16]uint32{0xbbe9da5d, 0xbd172738, 0xbd99313c, 0xbe064527, 0xbe33542a, 0xbe148a2b, 0xbdcff4b4, 0xbd677060, 0xbccb5168, 0x3d3b2ef1, 0x3d42c547, 0x3d237d00, 0x3ce35ce6, 0x3cede026, 0x3d8107d0, 0x3d48b1f9},
			[16]uint32{0x3d798189, 0x3cb4dfbc, 0xbba671f0, 0xbbb3ed64, 0xbd4c3cef, 0xbd8ff9b2, 0xbdd9e3c0, 0xbd6435d8, 0x3bfe7920, 0x3d9409e8, 0x3d6a06cd, 0x3c9d415c, 0xbd69c012, 0xbd8290cc, 0xbcfab882, 0x3c1f6f38},
			[2]uint32{0x3c1f6f38, 0xbcfab882}},
		{"BlockDc 0.995", impl.BlockDc(0.995),
			[3]uint32{0x3f7eb852, 0x00000000, 0x00000000},
			[16]uint32{0xbe122878, 0xbf0497bb, 0xbef95e2e, 0xbf7bb582, 0xbf4f9a02, 0x3e05bbc4, 0xbf37e2e0, 0xbf1bed56, 0xbf124948, 0x3f2e3ec7, 0xbf61b850, 0x3e3e4f90, 0x3e56fcdf, 0x3ef0ea70, 0x3f6378be, 0xbed58368},
			[16]uint32{0x3f5df668, 0xbf087c2d, 0x3eabb154, 0x3eeb3544, 0xbf686cdc, 0x3d3680d0, 0xbf599f71, 0x3f68872c, 0xbd1349b0, 0x3e5eefd6, 0xbf6c8ae6, 0xbd4416c0, 0xbf2e14f6, 0x3f5975e9, 0x3eac976c, 0x3b206e80},
			[2]uint32{0xbc795900, 0x3b206e80}},
	}
}

func bitsOf2(list [2]uint32) [2]float32 {
	return [2]float32{math.Float32frombits(list[0]), math.Float32frombits(list[1])}
}

func bitsOf3(list [3]uint32) [3]float32 {
	return [3]float32{math.Float32frombits(list[0]), math.Float32frombits(list[1]), math.Float32frombits(list[2])}
}

func TestP4FiltersMakeWhatWasCalculated(t *testing.T) {
	for _, s := range settledFilters() {
		f := s.filter
		wantFilter(t, s.name, f, impl.Filter{Kind: f.Kind, C: bitsOf3(s.c)})
		noise, seed := impl.NoiseBlock(7)
		f = wantRun(t, s.name, f, noise, blockOfBits(s.first))
		noise, _ = impl.NoiseBlock(seed)
		f = wantRun(t, s.name, f, noise, blockOfBits(s.second))
		wantFilter(t, s.name, f, impl.Filter{Kind: f.Kind, C: bitsOf3(s.c), S: bitsOf2(s.s)})
	}
}

// wantRun returns the filter behind the block.
func wantRun(t *testing.T, name string, f impl.Filter, in, out impl.Block) impl.Filter {
	t.Helper()
	next, got, code := impl.RunFilter(f, in)
	want(t, name, code, impl.OK)
	wantBlock(t, name, got, out)
	return next
}

func TestP4ChainsMakeWhatWasCalculated(t *testing.T) {
	var list []impl.Filter
	for _, s := range settledFilters() {
		list = append(list, s.filter)
	}
	noise, _ := impl.NoiseBlock(7)
	behind, out, code := impl.RunChain(list, noise)
	want(t, "RunChain", code, impl.OK)
	wantBlock(t, "RunChain", out, blockOfBits([16]uint32{0xb8b8e1a8, 0xba8a7bd4, 0xbb99ac14, 0xbc42e2c9, 0xbcc10aac, 0xbd1a78ae, 0xbd458a2c, 0xbd5a287e, 0xbd5ad29d, 0xbd4b8e69, 0xbd26d3f7, 0xbd010e23, 0xbcc582a0, 0xbc971fd9, 0xbc55b92e, 0xbbbf28d6}))
	states := [5][2]uint32{{0xbdab44f6, 0x00000000}, {0xbdab44f6, 0x00000000}, {0xbd936ebc, 0xbd80ab5b}, {0xbc01493c, 0xbc765c6e}, {0xbc01493c, 0xbbbf28d6}}
	want(t, "filters", len(behind), len(list))
	for i, f := range behind {
		wantFilter(t, "RunChain", f, impl.Filter{Kind: list[i].Kind, C: list[i].C, S: bitsOf2(states[i])})
	}
}

func TestFiltersThatResonate(t *testing.T) {
	for _, c := range []struct {
		turns, radius float32
		c             [3]uint32
	}{
		{0.25, 0.5, [3]uint32{0x3f000000, 0x00000000, 0x3e800000}},
		{0, 0.5, [3]uint32{0x3f000000, 0xbf800000, 0x3e800000}},
		{0.5, 1, [3]uint32{0x00000000, 0x40000000, 0x3f800000}},
		{0.125, 0.75, [3]uint32{0x3e800000, 0xbf87c3b6, 0x3f100000}},
		{0.75, 0.5, [3]uint32{0x3f000000, 0x80000000, 0x3e800000}},
		{-0.1, 0.9, [3]uint32{0x3dccccd0, 0xbfba65c3, 0x3f4f5c28}},
		{0.1, 0.9, [3]uint32{0x3dccccd0, 0xbfba65c3, 0x3f4f5c28}},
		{0, 0, [3]uint32{0x3f800000, 0x80000000, 0x00000000}},
		{0.5, 0, [3]uint32{0x3f800000, 0x00000000, 0x00000000}},
		{0.25, 1, [3]uint32{0x00000000, 0x00000000, 0x3f800000}},
		{0.3, -0.5, [3]uint32{0x3fc00000, 0xbe9e377c, 0x3e800000}},
		{1e+30, 1, [3]uint32{0x00000000, 0x80000000, 0x3f800000}},
		{0.3, 1.5, [3]uint32{0xbf000000, 0x3f6d533a, 0x40100000}},
	} {
		f := impl.TwoPole(c.turns, c.radius)
		wantFilter(t, "TwoPole", f, impl.Filter{Kind: impl.FkTwoPole, C: bitsOf3(c.c)})
	}
}

func TestFiltersThatKeep(t *testing.T) {
	for _, c := range []struct {
		keep float32
		rest uint32
	}{
		{0, 0x3f800000},
		{minusZero, 0x3f800000},
		{1, 0x00000000},
		{-1, 0x40000000},
		{0.1, 0x3f666666},
		{0.999, 0x3a831200},
		{2, 0xbf800000},
		{leastSample, 0x3f800000},
		{greatest, 0xff7fffff},
		{-greatest, 0x7f7fffff},
	} {
		rest := math.Float32frombits(c.rest)
		wantFilter(t, "OnePole", impl.OnePole(c.keep), impl.Filter{Kind: impl.FkOnePole, C: [3]float32{rest, c.keep}})
		wantFilter(t, "OneZero", impl.OneZero(c.keep), impl.Filter{Kind: impl.FkOneZero, C: [3]float32{rest, c.keep}})
		wantFilter(t, "BlockDc", impl.BlockDc(c.keep), impl.Filter{Kind: impl.FkBlock, C: [3]float32{c.keep}})
	}
}

func TestFiltersForFractions(t *testing.T) {
	for _, c := range []struct {
		fraction float32
		c        uint32
	}{
		{0, 0x3f800000},
		{minusZero, 0x3f800000},
		{leastSample, 0x3f800000},
		{0.1, 0x3f51745c},
		{0.25, 0x3f19999a},
		{0.5, 0x3eaaaaab},
		{0.75, 0x3e124925},
		{1, 0x00000000},
		{1.25, 0xbde38e39},
		{1.5, 0xbe4ccccd},
		{math.Nextafter32(2, 0), 0xbeaaaaa9},
		{2, 0xbeaaaaab},
	} {
		f, code := impl.AllpassFor(c.fraction)
		want(t, "AllpassFor", code, impl.OK)
		wantFilter(t, "AllpassFor", f, impl.Filter{Kind: impl.FkAllpass, C: [3]float32{math.Float32frombits(c.c)}})
		want(t, "ValidFilter", impl.ValidFilter(f), true)
	}
	for _, fraction := range []float32{-leastSample, -0.5, -1, math.Nextafter32(2, 3), 3, greatest, -greatest, infinite, -infinite, nan, otherNaN} {
		f, code := impl.AllpassFor(fraction)
		want(t, "AllpassFor", code, impl.ErrRange)
		wantFilter(t, "with an error", f, impl.Filter{})
	}
}
