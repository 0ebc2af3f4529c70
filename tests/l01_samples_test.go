package tests

import (
	"math"
	"testing"

	"loop.example/g01173/impl"
)

func TestCodeNames(t *testing.T) {
	for code, name := range []string{"ok", "invalid", "range", "limit", "state", "syntax", "notfound", "budget", "proof"} {
		want(t, "name", impl.CodeName(int64(code)), name)
	}
	want(t, "behind the last", impl.CodeName(9), "")
	want(t, "ahead of the first", impl.CodeName(-1), "")
	want(t, "of 32 bits the same", impl.CodeName(1<<32+1), "")
}

func TestSameSampleHoldsSignsAndNaN(t *testing.T) {
	list := awkward()
	for _, a := range list {
		for _, b := range list {
			want(t, "SameSample", impl.SameSample(a, b), sameBits(a, b))
		}
	}
	want(t, "0 and -0", impl.SameSample(0, minusZero), false)
	want(t, "NaN and another one", impl.SameSample(nan, otherNaN), true)
	want(t, "NaN and infinite", impl.SameSample(nan, infinite), false)
	want(t, "neighbours", impl.SameSample(0, leastSample), false)
}

func TestFlushSampleMakesZeroOfSubnormals(t *testing.T) {
	for _, a := range []float32{0, minusZero, leastSample, -leastSample, mostSub, -mostSub} {
		wantSample(t, "flushed", impl.FlushSample(a), 0)
	}
	for _, a := range []float32{leastNormal, -leastNormal, 1, -1, greatest, -greatest, infinite, -infinite, nan, otherNaN} {
		wantSample(t, "kept", impl.FlushSample(a), a)
	}
}

func TestClampSample(t *testing.T) {
	for _, c := range []struct{ a, limit, want float32 }{
		{2, 0.5, 0.5}, {-2, 0.5, -0.5}, {0.25, 0.5, 0.25}, {-0.25, 0.5, -0.25},
		{0.5, 0.5, 0.5}, {-0.5, 0.5, -0.5}, {infinite, 1, 1}, {-infinite, 1, -1},
		{infinite, infinite, infinite}, {leastSample, 0, 0}, {-leastSample, 0, minusZero}, {minusZero, 0, minusZero},
		{0, 0, 0}, {0, minusZero, 0}, {minusZero, minusZero, minusZero}, {0, -1, -1}, {-2, -1, 1}, {-1, -1, 1}, {1, -infinite, -infinite},
		{nan, 1, nan}, {nan, nan, nan}, {2, nan, 2}, {-2, nan, -2}, {infinite, nan, infinite}, {minusZero, nan, minusZero},
	} {
		wantSample(t, "ClampSample", impl.ClampSample(c.a, c.limit), c.want)
	}
}

func TestP2ShortsAreFoundAgain(t *testing.T) {
	for n := math.MinInt16; n <= math.MaxInt16; n++ {
		a := impl.FromShort(int16(n))
		if float64(a) != float64(n)/32768 || math.Signbit(float64(a)) != (n < 0) {
			t.Fatalf("FromShort %d: got %v", n, a)
		}
		if back := impl.ToShort(a); back != int16(n) {
			t.Fatalf("ToShort of FromShort %d: got %d", n, back)
		}
	}
}

func TestP2ShortsRoundToTheNearest(t *testing.T) {
	for n := math.MinInt16; n < math.MaxInt16; n++ {
		tie := (float32(n) + 0.5) / 32768
		even := n + n&1
		for _, c := range []struct {
			a    float32
			want int
		}{{math.Nextafter32(tie, -2), n}, {tie, even}, {math.Nextafter32(tie, 2), n + 1}} {
			if got := impl.ToShort(c.a); int(got) != c.want {
				t.Fatalf("ToShort %v: got %d, want %d", c.a, got, c.want)
			}
		}
	}
}

func TestP2ShortsSaturate(t *testing.T) {
	for _, c := range []struct {
		a    float32
		want int16
	}{
		{0, 0}, {minusZero, 0}, {leastSample, 0}, {-mostSub, 0}, {nan, 0}, {otherNaN, 0},
		{0.5 / 32768, 0}, {1.5 / 32768, 2}, {2.5 / 32768, 2}, {-0.5 / 32768, 0}, {-1.5 / 32768, -2}, {-2.5 / 32768, -2},
		{32766.5 / 32768, 32766}, {32767.25 / 32768, 32767}, {32767.5 / 32768, 32767}, {1, 32767}, {1.5, 32767},
		{2, 32767}, {65536, 32767}, {1e9, 32767}, {1e20, 32767}, {greatest, 32767}, {infinite, 32767},
		{-32767.5 / 32768, -32768}, {-1, -32768}, {-32768.5 / 32768, -32768}, {-1.5, -32768},
		{-2, -32768}, {-65536, -32768}, {-1e9, -32768}, {-1e20, -32768}, {-greatest, -32768}, {-infinite, -32768},
	} {
		if got := impl.ToShort(c.a); got != c.want {
			t.Errorf("ToShort %v: got %d, want %d", c.a, got, c.want)
		}
	}
}

func TestP2ShortsOfBlocks(t *testing.T) {
	r := newRandom()
	for range 200 {
		b := loudBlock(r)
		b[3], b[5], b[7] = nan, infinite, -greatest
		list := impl.ToShorts(b)
		back := impl.FromShorts(list)
		for i, a := range b {
			want(t, "ToShorts", list[i], impl.ToShort(a))
			wantSample(t, "FromShorts", back[i], impl.FromShort(list[i]))
		}
		want(t, "found again", impl.ToShorts(back), list)
	}
}
