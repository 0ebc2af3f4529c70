package tests

import (
	"math"
	"testing"

	"loop.example/g01173/impl"
)

func TestP10Edges(t *testing.T) {
	root := float32(1.3247180) // its cube less itself is 1, nearly
	for _, c := range []struct{ pressure, made float32 }{
		{0, minusZero}, {minusZero, 0}, {0.5, -0.375}, {-0.5, 0.375}, {1, 0}, {-1, minusZero}, {1.25, 0.703125}, {-1.25, -0.703125}, {1.5, 1}, {2, 1}, {-2, -1}, {100, 1},
		{leastSample, -leastSample}, {-mostSub, mostSub}, {leastNormal, -leastNormal}, {1e-20, -1e-20}, {math.Nextafter32(1, 2), math.Float32frombits(0x34800001)}, {math.Nextafter32(1, 0), math.Float32frombits(0xb3ffffff)},
		{1e13, 1}, {-1e13, -1}, {1e20, 1}, {-1e20, -1}, {greatest, 1}, {-greatest, -1}, {infinite, 1}, {-infinite, -1}, {nan, nan}, {otherNaN, nan},
	} {
		wantSample(t, "JetAt", impl.JetAt(c.pressure), c.made)
	}
	for i := range 40 {
		p := math.Float32frombits(math.Float32bits(root) + uint32(i) - 20)
		wantSample(t, "near 1", impl.JetAt(p), edgeOf(p))
		wantSample(t, "near -1", impl.JetAt(-p), edgeOf(-p))
	}
	random := newRandom()
	for range 5000 {
		p := float32(3*random.Float64() - 1.5)
		wantSample(t, "JetAt", impl.JetAt(p), edgeOf(p))
		wantSample(t, "the other side", impl.JetAt(-p), -edgeOf(p))
		p = math.Float32frombits(random.Uint32())
		wantSample(t, "any bits", impl.JetAt(p), edgeOf(p))
	}
}

func TestP10EdgesThatWereCalculated(t *testing.T) {
	for _, c := range [][2]uint32{
		{0x3dcccccd, 0xbdcac083}, {0x3e99999a, 0xbe8bc6a8}, {0xbf333333, 0x3eb6c8b4}, {0x3f666666, 0xbe2f1aa3}, {0x3f13cd36, 0xbec511a3}, {0x3f8ccccd, 0x3e6c8b47}, {0xbf99999a, 0xbf072b04}, {0x3fa66666, 0x3f65a1c6}, {0x3fa8f5c3, 0x3f7adf33}, {0x3fa9905b, 0x3f7ffffa}, {0x3fa9905d, 0x3f800000}, {0xbfaa3d71, 0xbf800000}, {0x2edbe6ff, 0xaedbe6ff}, {0x3f7fbe77, 0xbb02df77}, {0x3f8020c5, 0x3b034593},
	} {
		wantSample(t, "JetAt", impl.JetAt(math.Float32frombits(c[0])), math.Float32frombits(c[1]))
	}
}

func TestP10NewJets(t *testing.T) {
	almost := math.Nextafter32(1, 0)
	for _, c := range []struct {
		throat, bore    int64
		keep, near, far float32
	}{
		{1, 1, 0, 0, 0}, {1, impl.MaxRing, almost, 1, -1}, {impl.MaxRing, 1, 0.5, -1, 1}, {impl.MaxRing, impl.MaxRing, minusZero, minusZero, minusZero}, {3, 5, leastSample, leastSample, -leastSample}, {7, 2, 0.3, almost, -almost},
	} {
		x, code := impl.NewJet(c.throat, c.bore, c.keep, c.near, c.far)
		want(t, "NewJet", code, impl.OK)
		wantJet(t, "NewJet", x, impl.Jet{
			Throat: impl.Ring{Samples: make([]float32, c.throat)}, Bore: impl.Ring{Samples: make([]float32, c.bore)},
			Low: impl.Filter{Kind: impl.FkOnePole, C: [3]float32{difOf(1, c.keep), c.keep}}, Dc: impl.Filter{Kind: impl.FkBlock, C: [3]float32{math.Float32frombits(0x3f7eb852)}}, Near: c.near, Far: c.far,
		})
		want(t, "ValidJet", impl.ValidJet(x), true)
		silent, code := impl.IsSilentJet(x)
		want(t, "IsSilentJet", code, impl.OK)
		want(t, "IsSilentJet", silent, true)
	}
}

func wantNoJet(t *testing.T, throat, bore int64, keep, near, far float32) {
	t.Helper()
	x, code := impl.NewJet(throat, bore, keep, near, far)
	if code != impl.ErrRange {
		t.Errorf("NewJet %d, %d, %v, %v, %v: got %d, want %d", throat, bore, keep, near, far, code, impl.ErrRange)
	}
	wantJet(t, "with an error", x, impl.Jet{})
}

func TestP10JetsOutOfRange(t *testing.T) {
	for _, n := range []int64{0, -1, impl.MaxRing + 1, 1 << 32, 1<<32 + 1, math.MaxInt64, math.MinInt64} {
		wantNoJet(t, n, 2, 0, 0.5, 0.5)
		wantNoJet(t, 2, n, 0, 0.5, 0.5)
		wantNoJet(t, n, n, nan, 2, 2)
	}
	for _, keep := range []float32{1, math.Nextafter32(1, 2), -leastSample, -0.5, 1.5, greatest, infinite, -infinite, nan, otherNaN} {
		wantNoJet(t, 2, 3, keep, 0.5, 0.5)
	}
	for _, a := range noScatters {
		wantNoJet(t, 2, 3, 0, a, 0.5)
		wantNoJet(t, 2, 3, 0, 0.5, a)
		wantNoJet(t, 0, 3, 1, a, a)
	}
}

// blowing has rings of one sample each, and filters that change nothing at first.
func blowing(throat, bore, near, far float32) impl.Jet {
	x := newJet(1, 1, 0, 0, 0)
	x.Throat.Samples[0], x.Bore.Samples[0], x.Near, x.Far = throat, bore, near, far
	return x
}

func TestP10WhatComesFromTheEdge(t *testing.T) {
	for _, c := range []struct{ throat, bore, near, far, breath, toThroat, toBore float32 }{
		{0.5, 0, 0.5, 0.5, 1, 1, -0.375}, {0.5, 2, 0.5, 0.25, 1, 0, 0.125}, {-0.5, 2, -0.5, 0.25, 1, 2, 0.875}, {0, 2, 0.5, -0.25, 0, -1, -0.5}, {3, 2, 0, 0, 3, 3, 1}, {-3, 2, 0, 0.5, -3, -3, 0}, {1, 1, 1, 1, 1, 0, 1},
		{0, 0, 0.5, 0.5, nan, 0, 0}, {0, 0, 0.5, 0.5, infinite, 0, 0}, {0.5, 0, 0.5, 0.5, -infinite, 0, -0.375}, {0, 0, 0.5, 0.5, greatest, greatest, 0}, {0, 0, 0.5, 0.5, leastSample, 0, 0}, {0, 0, 0.5, 0.5, -mostSub, 0, 0}, {0, 0, 0.5, 0.5, leastNormal, leastNormal, 0},
		{0, 0, 0.5, 0.5, minusZero, 0, 0}, {minusZero, minusZero, 0.5, 0.5, minusZero, 0, 0}, {leastSample, leastSample, 1, 1, 0, 0, 0}, {leastNormal, 0, 1, 1, 0, 0, -leastNormal}, {mostSub, leastNormal, 1, 1, leastSample, 0, 0},
		{greatest, 0, 0, 0, 0, 0, 1}, {-greatest, 0, 0, 0, 0, 0, -1}, {0, greatest, 1, 1, -greatest, 0, greatest}, {0, greatest, 1, -1, greatest, 0, -greatest}, {0, greatest, 2, 2, 0, 0, 0}, {0, 2, greatest, -greatest, 0, 0, 0}, {2, greatest, 1, 1, 0, -greatest, greatest},
	} {
		x := blowing(c.throat, c.bore, c.near, c.far)
		y, made, code := impl.StepJet(x, c.breath)
		want(t, "StepJet", code, impl.OK)
		wantSample(t, "it makes", made, c.bore)
		wantSamples(t, "what comes", []float32{y.Throat.Samples[0], y.Bore.Samples[0]}, []float32{c.toThroat, c.toBore})
		expected, _ := stepOfJet(x, c.breath)
		wantJet(t, "StepJet", y, expected)
	}
}

func TestP10WhatTheFiltersOfJetsKeep(t *testing.T) {
	for _, c := range []struct {
		keep, low, before, blocked, bore float32
		y, e                             float32
	}{
		{0, 0, 0, 0, 2, 2, 2}, {0, 5, 1, 0, 2, 2, 1}, {0.25, 2, 0, 0, 4, 3.5, 3.5}, {0.25, 2, 1.5, 4, 4, 3.5, 4}, {0.5, -2, 1, -4, 4, 1, -2}, {0, 0, 2, 0, 2, 2, 0}, {0.5, minusZero, minusZero, minusZero, minusZero, minusZero, 0},
		{0.5, 0, 0, 0, leastNormal, leastNormal / 2, leastNormal / 2}, {0, 0, -greatest, 0, greatest, greatest, infinite}, {3, -greatest, 0, 0, greatest, -infinite, -infinite},
	} {
		x := blowing(0, c.bore, 1, -1)
		x.Low, x.Dc = impl.OnePole(c.keep), impl.BlockDc(0.5)
		x.Low.S[0], x.Dc.S = c.low, [2]float32{c.before, c.blocked}
		y, made, code := impl.StepJet(x, 0)
		want(t, "StepJet", code, impl.OK)
		wantSample(t, "it makes", made, c.bore)
		wantSamples(t, "the states", []float32{y.Low.S[0], y.Low.S[1], y.Dc.S[0], y.Dc.S[1]}, []float32{keptOf(c.y), 0, keptOf(c.y), keptOf(c.e)})
		wantSamples(t, "what comes", []float32{y.Throat.Samples[0], y.Bore.Samples[0]}, []float32{keptOf(difOf(0, c.e)), keptOf(difOf(0, c.e))})
	}
}
