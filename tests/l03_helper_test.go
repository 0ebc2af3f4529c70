package tests

import (
	"slices"
	"testing"

	"loop.example/g01173/impl"
)

func wantString(t *testing.T, name string, got, want impl.String) {
	t.Helper()
	wantRing(t, name+", Loop", got.Loop, want.Loop)
	wantFilter(t, name+", Tune", got.Tune, want.Tune)
	wantFilter(t, name+", Damp", got.Damp, want.Damp)
	wantSample(t, name+", Loss", got.Loss, want.Loss)
}

// newString is for arguments that NewString takes.
func newString(period, mix, loss float32) impl.String {
	x, _ := impl.NewString(period, mix, loss)
	return x
}

func plucked(x impl.String, place, force float32) impl.String {
	x, _ = impl.PluckString(x, place, force)
	return x
}

// withRing does not care whether Tune is one for this ring.
func withRing(x impl.String, at int64, samples ...float32) impl.String {
	x.Loop = impl.Ring{Samples: samples, At: at}
	return x
}

// validStrings has strings with samples and states of all kinds, turned to
// several places, and of all lengths that matter.
func validStrings() []impl.String {
	list := []impl.String{
		newString(3, 0, 1), newString(3, 0.5, 0), newString(4.5, 0, minusZero), newString(1024, 0.5, 1),
		plucked(newString(7.6, 0.2, 0.95), 0.3, 1), plucked(newString(40.3, 0.5, 1), 0.9, -0.5), plucked(newString(1024, 0, 0.99), 0.1, greatest),
		withRing(newString(4, 0.1, 0.5), 0, minusZero), withRing(newString(4, 0.1, 0.5), 0, nan), withRing(newString(4, 0.1, 0.5), 1, leastSample, 0.75),
	}
	long := numbered(impl.MaxRing, impl.MaxRing-1)
	list = append(list, withRing(newString(4.5, 0.3, 0.9), long.At, long.Samples...))
	kinds := awkward()
	filters := validFilters()
	random := newRandom()
	for i := range 120 {
		x := impl.String{Loss: []float32{0.9, -0.9, 1, 0, minusZero, leastSample, greatest, 1.5}[i%8]}
		x.Tune = filterOf(filters, impl.FkAllpass, i*37)
		x.Damp = filterOf(filters, impl.FkOneZero, i*53)
		samples := loudBlock(random)
		for j := range samples {
			if random.IntN(3) == 0 {
				samples[j] = kinds[random.IntN(len(kinds))]
			}
		}
		n := 1 + i%16
		list = append(list, withRing(x, []int64{0, int64(n - 1), int64(n / 2)}[i%3], samples[:n]...))
	}
	return list
}

func filterOf(list []impl.Filter, kind int64, k int) impl.Filter {
	for i := range list {
		if f := list[(k+i)%len(list)]; f.Kind == kind {
			return f
		}
	}
	return impl.Filter{}
}

// invalidStrings has strings that break one rule each, beside good parts.
func invalidStrings() []impl.String {
	good := plucked(newString(4.5, 0.1, 0.9), 0.5, 1)
	list := []impl.String{{}}
	for _, r := range invalidRings() {
		list = append(list, withRing(good, r.At, r.Samples...))
	}
	for _, f := range append(invalidFilters(), impl.OnePole(0.5), impl.TwoPole(0.1, 0.5), impl.BlockDc(0.5)) {
		x := good
		x.Tune = f
		y := good
		y.Damp = f
		list = append(list, x, y)
	}
	x := good
	x.Tune = impl.OneZero(0.5)
	y := good
	y.Damp = allpassFor(0.5)
	z := good
	z.Tune, z.Damp = good.Damp, good.Tune
	list = append(list, x, y, z)
	for _, a := range []float32{nan, otherNaN, infinite, -infinite} {
		x := good
		x.Loss = a
		list = append(list, x)
	}
	return list
}

// stepOfString is the step of the document, written down once more.
func stepOfString(x impl.String, in float32) (impl.String, float32) {
	samples := slices.Clone(x.Loop.Samples)
	out := samples[x.Loop.At]
	var y, z float32
	x.Tune, y = stepOf(x.Tune, out)
	x.Damp, z = stepOf(x.Damp, y)
	samples[x.Loop.At] = keptOf(sumOf(proOf(z, x.Loss), in))
	return withRing(x, (x.Loop.At+1)%int64(len(samples)), samples...), out
}

// fromOldest has the samples of a ring, the oldest one first.
func fromOldest(r impl.Ring) []float32 {
	return slices.Concat(r.Samples[r.At:], r.Samples[:r.At])
}

// wantOnlyAdded tells whether a string is another one but for samples.
func wantOnlyAdded(t *testing.T, name string, got, before impl.String, samples []float32) {
	t.Helper()
	wantSamples(t, name, fromOldest(got.Loop), samples)
	expected := before
	expected.Loop = impl.Ring{Samples: got.Loop.Samples, At: before.Loop.At}
	wantString(t, name, got, expected)
}
