package tests

import (
	"math"
	"slices"
	"testing"

	"loop.example/g01173/impl"
)

func TestP4NewRingsAreZeros(t *testing.T) {
	for _, n := range []int64{1, 2, 3, 1023, 1024} {
		r, code := impl.NewRing(n)
		want(t, "NewRing", code, impl.OK)
		wantRing(t, "NewRing", r, impl.Ring{Samples: make([]float32, n)})
		want(t, "ValidRing", impl.ValidRing(r), true)
	}
	for _, n := range []int64{0, -1, 1025, 1 << 32, 1<<32 + 1, math.MinInt64, math.MaxInt64} {
		r, code := impl.NewRing(n)
		want(t, "NewRing", code, impl.ErrRange)
		wantRing(t, "NewRing", r, impl.Ring{})
	}
}

func TestP4ValidRings(t *testing.T) {
	for _, n := range []int64{1, 2, 1024} {
		for _, at := range []int64{0, n / 2, n - 1} {
			want(t, "ValidRing", impl.ValidRing(numbered(n, at)), true)
		}
	}
	want(t, "with all kinds of samples", impl.ValidRing(impl.Ring{Samples: awkward()}), true)
	for i, r := range invalidRings() {
		if impl.ValidRing(r) {
			t.Errorf("ring %d is valid", i)
		}
	}
}

func TestP4SameRings(t *testing.T) {
	kinds := awkward()
	r := impl.Ring{Samples: kinds, At: 3}
	other := impl.Ring{Samples: slices.Clone(kinds), At: 3}
	n := len(kinds)
	other.Samples[n-1], other.Samples[n-2] = kinds[n-2], kinds[n-1]
	want(t, "with another NaN", impl.SameRing(r, other), true)
	other.At = 4
	want(t, "with another At", impl.SameRing(r, other), false)
	for i := range kinds {
		other = impl.Ring{Samples: slices.Clone(kinds), At: 3}
		other.Samples[i] = 0.125
		want(t, "with another sample", impl.SameRing(r, other), false)
		want(t, "with another sample", impl.SameRing(other, r), false)
	}
	zero, minus := impl.Ring{Samples: []float32{0}}, impl.Ring{Samples: []float32{minusZero}}
	want(t, "0 and -0", impl.SameRing(zero, minus), false)
	want(t, "one sample more", impl.SameRing(zero, impl.Ring{Samples: []float32{0, 0}}), false)
	want(t, "one sample less", impl.SameRing(impl.Ring{Samples: []float32{0, 0}}, zero), false)
	want(t, "turned", impl.SameRing(numbered(4, 0), numbered(4, 1)), false)
}

func TestP4SameRingsThatAreNotValid(t *testing.T) {
	for i, r := range invalidRings() {
		for j, s := range invalidRings() {
			same := r.At == s.At && len(r.Samples) == len(s.Samples)
			if impl.SameRing(r, s) != same {
				t.Errorf("rings %d and %d: want %t", i, j, same)
			}
		}
	}
}

func TestP4RingsGiveBackWhatHasCome(t *testing.T) {
	for _, n := range []int64{1, 2, 3, 7, 1024} {
		r, _ := impl.NewRing(n)
		var come []float32
		for i := range 2*n + 5 {
			a := float32(i) + 0.5
			come = append(come, a)
			next, oldest, code := impl.PushSample(r, a)
			want(t, "PushSample", code, impl.OK)
			back := float32(0)
			if i >= n {
				back = come[i-n]
			}
			wantSample(t, "the oldest one", oldest, back)
			want(t, "At", next.At, (i+1)%n)
			wantSample(t, "its place", next.Samples[i%n], a)
			r = next
		}
		for k := int64(1); k <= n; k++ {
			a, code := impl.ReadBack(r, k)
			want(t, "ReadBack", code, impl.OK)
			wantSample(t, "ReadBack", a, come[int64(len(come))-k])
		}
	}
}

func TestP4RingsKeepSamplesOfAllKinds(t *testing.T) {
	kinds := awkward()
	n := int64(len(kinds))
	r := numbered(n, n-1)
	for _, a := range kinds {
		r, _, _ = impl.PushSample(r, a)
	}
	for i, a := range kinds {
		k := n - int64(i)
		back, code := impl.ReadBack(r, k)
		want(t, "ReadBack", code, impl.OK)
		wantSample(t, "ReadBack", back, a)
		between, code := impl.ReadBetween(r, float32(k))
		want(t, "ReadBetween", code, impl.OK)
		wantSample(t, "ReadBetween", between, a)
	}
	for _, a := range kinds {
		next, oldest, code := impl.PushSample(r, 0)
		want(t, "PushSample", code, impl.OK)
		wantSample(t, "PushSample", oldest, a)
		r = next
	}
}

func TestP4PushChangesOneSample(t *testing.T) {
	for _, n := range []int64{1, 2, 5} {
		for at := range n {
			r := numbered(n, at)
			expected := slices.Clone(r.Samples)
			expected[at] = -9
			next, oldest, _ := impl.PushSample(r, -9)
			wantSample(t, "oldest", oldest, 1)
			wantRing(t, "PushSample", next, impl.Ring{Samples: expected, At: (at + 1) % n})
		}
	}
}

func TestP4ReadBackOutOfRange(t *testing.T) {
	for _, n := range []int64{1, 3, 1024} {
		r := numbered(n, n-1)
		for _, k := range []int64{0, -1, -n, n + 1, 2 * n, math.MinInt64, math.MaxInt64} {
			if k > n || k < 1 {
				a, code := impl.ReadBack(r, k)
				want(t, "ReadBack", code, impl.ErrRange)
				wantSample(t, "with an error", a, 0)
			}
		}
		newest, _ := impl.ReadBack(r, 1)
		wantSample(t, "the newest one", newest, float32(n))
		oldest, _ := impl.ReadBack(r, n)
		wantSample(t, "the oldest one", oldest, 1)
	}
}

func TestP4ReadBetweenOutOfRange(t *testing.T) {
	for _, n := range []int64{1, 3, 1024} {
		r := numbered(n, n-1)
		below, above := math.Nextafter32(1, 0), math.Nextafter32(float32(n), infinite)
		for _, d := range []float32{0, minusZero, 0.5, below, -1, -1.5, above, float32(n) + 0.5, float32(n) + 1, greatest, -greatest, infinite, -infinite, nan, otherNaN, leastSample} {
			a, code := impl.ReadBetween(r, d)
			want(t, "ReadBetween", code, impl.ErrRange)
			wantSample(t, "with an error", a, 0)
		}
	}
}

func TestP4ReadBetween(t *testing.T) {
	// From the oldest one on: what came 3, 2 and 1 samples ago.
	r := impl.Ring{Samples: []float32{math.Float32frombits(0x3f3504f3), 0.1, math.Float32frombits(0x40490fdb)}, At: 1}
	for _, c := range []struct {
		d    float32
		bits uint32
	}{{1.0, 0x3f3504f3}, {1.1, 0x3f73579a}, {1.25, 0x3fa869c8}, {1.5, 0x3ff65118}, {1.9, 0x40397b31}, {2.0, 0x40490fdb}, {2.3, 0x400ea9d2}, {2.5, 0x3fcf7641}, {2.999, 0x3dd30740}, {3.0, 0x3dcccccd}} {
		a, code := impl.ReadBetween(r, c.d)
		want(t, "ReadBetween", code, impl.OK)
		wantSample(t, "ReadBetween", a, math.Float32frombits(c.bits))
	}
}

func TestP4ReadBetweenRoundsEachStep(t *testing.T) {
	random := newRandom()
	r := impl.Ring{Samples: make([]float32, 16), At: 11}
	for range 2000 {
		b := loudBlock(random)
		copy(r.Samples, b[:])
		d := 1 + float32(random.Float64())*15
		k := int64(d)
		if float32(k) == d {
			continue
		}
		share := difOf(d, float32(k))
		first, _ := impl.ReadBack(r, k)
		second, _ := impl.ReadBack(r, k+1)
		a, code := impl.ReadBetween(r, d)
		want(t, "ReadBetween", code, impl.OK)
		wantSample(t, "ReadBetween", a, sumOf(first, proOf(share, difOf(second, first))))
	}
}

func TestP4ReadBetweenBesideOtherNumbers(t *testing.T) {
	last := math.Nextafter32(2, 0)
	for _, c := range []struct{ older, newer, d, want float32 }{
		{nan, 1, 1, 1}, {infinite, 1, 1, 1}, {-infinite, minusZero, 1, minusZero}, {5, nan, 2, 5}, {minusZero, infinite, 2, minusZero},
		{nan, 1, 1.5, nan}, {1, nan, 1.5, nan}, {1, nan, last, nan},
		{infinite, 1, 1.5, infinite}, {-infinite, 1, last, -infinite}, {1, infinite, 1.5, nan}, {infinite, infinite, 1.5, nan},
		{greatest, -greatest, 1.5, infinite}, {-greatest, greatest, 1.5, -infinite}, {greatest, 0, 1.5, greatest / 2},
		{minusZero, minusZero, 1.5, 0}, {leastSample, 0, 1.5, 0}, {3 * leastSample, 0, 1.5, 2 * leastSample}, {leastSample, leastSample, 1.25, leastSample},
	} {
		r := impl.Ring{Samples: []float32{c.newer, c.older}, At: 1}
		a, code := impl.ReadBetween(r, c.d)
		want(t, "ReadBetween", code, impl.OK)
		wantSample(t, "ReadBetween", a, c.want)
	}
}

func TestP4ReadBetweenAtTheBounds(t *testing.T) {
	alone := impl.Ring{Samples: []float32{minusZero}}
	a, code := impl.ReadBetween(alone, 1)
	want(t, "ReadBetween", code, impl.OK)
	wantSample(t, "the only one", a, minusZero)
	r := numbered(1024, 1023)
	for _, c := range []struct{ d, want float32 }{{1, 1024}, {1024, 1}, {1023.5, 1.5}, {1023, 2}, {1.5, 1023.5}, {512.25, 512.75}, {math.Nextafter32(1024, 0), 1.00006103515625}} {
		a, code := impl.ReadBetween(r, c.d)
		want(t, "ReadBetween", code, impl.OK)
		wantSample(t, "ReadBetween", a, c.want)
	}
}

func TestP4TurnedRings(t *testing.T) {
	for _, n := range []int64{1, 2, 5, 1024} {
		for _, at := range []int64{0, n / 2, n - 1} {
			r := numbered(n, at)
			turned, code := impl.TurnRing(r)
			want(t, "TurnRing", code, impl.OK)
			wantRing(t, "TurnRing", turned, numbered(n, 0))
			again, _ := impl.TurnRing(turned)
			wantRing(t, "turned twice", again, turned)
		}
	}
	kinds := awkward()
	turned, _ := impl.TurnRing(impl.Ring{Samples: kinds, At: 5})
	wantSamples(t, "samples of all kinds", turned.Samples, append(slices.Clone(kinds[5:]), kinds[:5]...))
}

func TestP4RingsThatAreNotValid(t *testing.T) {
	for _, r := range invalidRings() {
		pushed, oldest, code := impl.PushSample(r, 1)
		want(t, "PushSample", code, impl.ErrInvalid)
		wantRing(t, "PushSample", pushed, impl.Ring{})
		wantSample(t, "PushSample", oldest, 0)
		for _, k := range []int64{0, 1, -1, 2000} {
			a, code := impl.ReadBack(r, k)
			want(t, "ReadBack", code, impl.ErrInvalid)
			wantSample(t, "ReadBack", a, 0)
		}
		for _, d := range []float32{0, 1, nan, 2000} {
			a, code := impl.ReadBetween(r, d)
			want(t, "ReadBetween", code, impl.ErrInvalid)
			wantSample(t, "ReadBetween", a, 0)
		}
		turned, code := impl.TurnRing(r)
		want(t, "TurnRing", code, impl.ErrInvalid)
		wantRing(t, "TurnRing", turned, impl.Ring{})
	}
}
