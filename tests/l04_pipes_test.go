package tests

import (
	"math"
	"slices"
	"testing"

	"loop.example/g01173/impl"
)

func TestP8ScattersOfAreas(t *testing.T) {
	for _, c := range []struct{ a, b, k float32 }{
		{3, 1, 0.5}, {1, 3, -0.5}, {1, 1, 0}, {1, leastSample, 1}, {leastSample, 1, -1}, {leastSample, leastSample, 0}, {leastSample, 2 * leastSample, math.Float32frombits(0xbeaaaaab)},
		{0.3, 0.7, math.Float32frombits(0xbecccccc)}, {greatest, 1, 1}, {greatest / 2, greatest / 8, math.Float32frombits(0x3f19999a)},
		// Here the sum is infinite, and the quotient 0.
		{greatest, greatest, 0}, {greatest, greatest / 2, 0}, {greatest / 2, greatest, minusZero},
	} {
		k, code := impl.ScatterOf(c.a, c.b)
		want(t, "ScatterOf", code, impl.OK)
		wantSample(t, "ScatterOf", k, c.k)
	}
	random := newRandom()
	for range 2000 {
		a, b := float32(math.Ldexp(random.Float64(), random.IntN(20))), float32(math.Ldexp(random.Float64(), random.IntN(20)))
		k, code := impl.ScatterOf(a, b)
		want(t, "ScatterOf", code, impl.OK)
		wantSample(t, "ScatterOf", k, quoOf(difOf(a, b), sumOf(a, b)))
		_, code = impl.NewPipe([]int64{1, 1}, []float32{k}, true, 0, 1)
		want(t, "a pipe with it", code, impl.OK)
	}
	for _, a := range []float32{0, minusZero, -leastSample, -1, -greatest, infinite, -infinite, nan, otherNaN} {
		for _, b := range []float32{1, a, infinite, leastSample, greatest} {
			wantNoScatter(t, a, b)
			wantNoScatter(t, b, a)
		}
	}
}

func wantNoScatter(t *testing.T, a, b float32) {
	t.Helper()
	k, code := impl.ScatterOf(a, b)
	want(t, "ScatterOf", code, impl.ErrRange)
	wantSample(t, "with an error", k, 0)
}

func TestP8SharesOfReeds(t *testing.T) {
	above, below := math.Nextafter32(1, 2), math.Nextafter32(1, 0)
	for _, c := range []struct{ rest, slope, difference, share float32 }{
		{0.75, -0.375, 0, 0.75}, {0.75, -0.375, 1, 0.375}, {0.75, -0.375, 3, -0.375}, {0.75, -0.375, 4, -0.75}, {0.75, -0.375, 5, -1}, {0.75, -0.375, -1, 1},
		{1, 0, 5, 1}, {-1, 0, 5, -1}, {above, 0, 5, 1}, {-above, 0, 5, -1}, {below, 0, 5, below}, {-below, 0, 5, -below}, {0.5, 0.5, 1, 1}, {-0.5, 0.5, -1, -1},
		{infinite, 1, 1, 1}, {-infinite, 1, 1, -1}, {0.5, 1, infinite, 1}, {0.5, 1, -infinite, -1}, {0.5, greatest, 2, 1}, {0.5, greatest, -2, -1},
		{nan, 0, 0, nan}, {0, nan, 0, nan}, {0, 0, nan, nan}, {0.5, 0, infinite, nan}, {0.5, infinite, 0, nan}, {infinite, -infinite, 1, nan}, {otherNaN, 1, 1, nan},
		{minusZero, 0, -1, minusZero}, {minusZero, 0, 1, 0}, {0, 0, -1, 0}, {leastSample, 0, 0, leastSample}, {-leastNormal, leastSample, 1, -mostSub},
	} {
		wantSample(t, "ReedAt", impl.ReedAt(c.rest, c.slope, c.difference), c.share)
	}
	random := newRandom()
	kinds := awkward()
	for range 3000 {
		list := loudBlock(random)
		if random.IntN(3) == 0 {
			list[random.IntN(3)] = kinds[random.IntN(len(kinds))]
		}
		wantSample(t, "ReedAt", impl.ReedAt(list[0], list[1], list[2]), reedOf(list[0], list[1], list[2]))
	}
}

func silentRings(lengths ...int64) []impl.Ring {
	var list []impl.Ring
	for _, n := range lengths {
		list = append(list, impl.Ring{Samples: make([]float32, n)})
	}
	return list
}

func TestP8NewPipes(t *testing.T) {
	almost := math.Nextafter32(1, 0)
	for _, c := range []struct {
		lengths    []int64
		scatter    []float32
		open       bool
		keep, loss float32
		rest       float32
	}{
		{[]int64{1}, nil, false, 0, 1, 1}, {[]int64{impl.MaxRing}, []float32{}, true, 0.25, 0, 0.75}, {[]int64{3, 5}, []float32{1}, true, minusZero, minusZero, 1},
		{[]int64{3, 5, 1}, []float32{-1, minusZero}, false, almost, leastSample, difOf(1, almost)}, {[]int64{impl.MaxRing, impl.MaxRing, impl.MaxRing}, []float32{0, leastSample}, true, leastSample, 0.5, 1},
	} {
		x, code := impl.NewPipe(c.lengths, c.scatter, c.open, c.keep, c.loss)
		want(t, "NewPipe", code, impl.OK)
		wantPipe(t, "NewPipe", x, impl.Pipe{
			Right: silentRings(c.lengths...), Left: silentRings(c.lengths...), Scatter: c.scatter,
			End: impl.Filter{Kind: impl.FkOnePole, C: [3]float32{c.rest, c.keep}}, Open: c.open, Loss: c.loss, Rest: 0.75, Slope: -0.375,
		})
		want(t, "ValidPipe", impl.ValidPipe(x), true)
		silent, code := impl.IsSilentPipe(x)
		want(t, "IsSilentPipe", code, impl.OK)
		want(t, "IsSilentPipe", silent, true)
	}
}

func wantNoPipe(t *testing.T, lengths []int64, scatter []float32, keep, loss float32) {
	t.Helper()
	for _, open := range []bool{false, true} {
		x, code := impl.NewPipe(lengths, scatter, open, keep, loss)
		if code != impl.ErrRange {
			t.Errorf("NewPipe %.20v, %.20v, keep %v, loss %v: got %d, want %d", lengths, scatter, keep, loss, code, impl.ErrRange)
		}
		wantPipe(t, "with an error", x, impl.Pipe{})
	}
}

func TestP8PipesOutOfRange(t *testing.T) {
	for n := range impl.MaxSections + 3 {
		for m := range impl.MaxSections + 3 {
			if n < 1 || n > impl.MaxSections || m != n-1 {
				wantNoPipe(t, slices.Repeat([]int64{2}, n), make([]float32, m), 0.5, 0.5)
				wantNoPipe(t, slices.Repeat([]int64{0}, n), make([]float32, m), nan, 2)
			}
		}
	}
	wantNoPipe(t, nil, nil, 0, 1)
	wantNoPipe(t, []int64{}, []float32{}, 0, 1)
	for _, n := range []int64{0, -1, impl.MaxRing + 1, 1 << 32, 1<<32 + 1, math.MaxInt64, math.MinInt64} {
		wantNoPipe(t, []int64{n}, nil, 0, 1)
		wantNoPipe(t, []int64{n, 2}, []float32{0}, 0, 1)
		wantNoPipe(t, []int64{2, 2, n}, []float32{0, 0}, 0, 1)
	}
	for _, k := range noScatters {
		wantNoPipe(t, []int64{2, 2}, []float32{k}, 0, 1)
		wantNoPipe(t, []int64{2, 2, 2}, []float32{0, k}, 0, 1)
		wantNoPipe(t, []int64{2, 2, 2}, []float32{k, 0}, 0, 1)
	}
	for _, keep := range []float32{-leastSample, -0.5, 1, 1.5, greatest, infinite, -infinite, nan, otherNaN} {
		wantNoPipe(t, []int64{2}, nil, keep, 1)
	}
	for _, loss := range []float32{-leastSample, -1, math.Nextafter32(1, 2), 2, greatest, infinite, -infinite, nan, otherNaN} {
		wantNoPipe(t, []int64{2}, nil, 0, loss)
	}
}

func TestP8OtherReeds(t *testing.T) {
	for i, x := range validPipes() {
		rest, slope := finiteSamples[i%len(finiteSamples)], finiteSamples[(i/3)%len(finiteSamples)]
		expected := x
		expected.Rest, expected.Slope = rest, slope
		y, code := impl.WithReed(x, rest, slope)
		want(t, "WithReed", code, impl.OK)
		wantPipe(t, "WithReed", y, expected)
	}
	good := newPipe([]int64{2}, nil, true, 0, 1)
	for _, a := range noForces {
		for _, b := range []float32{0, 1, nan} {
			wantNoReed(t, good, a, b, impl.ErrRange)
			wantNoReed(t, good, b, a, impl.ErrRange)
			for _, x := range invalidPipes() {
				wantNoReed(t, x, a, b, impl.ErrInvalid)
			}
		}
	}
	for _, x := range invalidPipes() {
		wantNoReed(t, x, 0.5, 0.5, impl.ErrInvalid)
	}
}

func wantNoReed(t *testing.T, x impl.Pipe, rest, slope float32, expected int64) {
	t.Helper()
	y, code := impl.WithReed(x, rest, slope)
	want(t, "WithReed", code, expected)
	wantPipe(t, "with an error", y, impl.Pipe{})
}

func TestP8ValidPipes(t *testing.T) {
	for i, x := range validPipes() {
		if !impl.ValidPipe(x) {
			t.Errorf("pipe %d is not valid", i)
		}
	}
	for i, x := range invalidPipes() {
		if impl.ValidPipe(x) {
			t.Errorf("pipe %d is valid", i)
		}
	}
}

func TestP8SamePipes(t *testing.T) {
	for _, list := range [][]impl.Pipe{validPipes(), invalidPipes()} {
		for i, x := range list {
			want(t, "the pipe itself", impl.SamePipe(x, copiedPipe(x)), true)
			y := list[(i+1)%len(list)]
			want(t, "both ways", impl.SamePipe(x, y), impl.SamePipe(y, x))
		}
	}
	x := pulsed(newPipe([]int64{3, 2}, []float32{0}, true, 0.25, 0), 1, 1, 1)
	x.Right[1].Samples[0] = nan
	for i, change := range []func(y *impl.Pipe){
		func(y *impl.Pipe) { y.Right[0].At = 2 },
		func(y *impl.Pipe) { y.Left[1].At = 1 },
		func(y *impl.Pipe) { y.Right[0].Samples[2] = minusZero },
		func(y *impl.Pipe) { y.Left[0].Samples[0] = leastSample },
		func(y *impl.Pipe) { y.Right[1].Samples[0] = 0 },
		func(y *impl.Pipe) { y.Right = y.Right[:1] },
		func(y *impl.Pipe) { y.Left = y.Left[:1] },
		func(y *impl.Pipe) { y.Left[1].Samples = y.Left[1].Samples[:1] },
		func(y *impl.Pipe) { y.Scatter[0] = minusZero },
		func(y *impl.Pipe) { y.Scatter = nil },
		func(y *impl.Pipe) { y.Scatter = []float32{0, 0} },
		func(y *impl.Pipe) { y.End.C[1] = 0.5 },
		func(y *impl.Pipe) { y.End.S[0] = minusZero },
		func(y *impl.Pipe) { y.End.S[1] = 1 },
		func(y *impl.Pipe) { y.End.Kind = impl.FkOneZero },
		func(y *impl.Pipe) { y.Open = false },
		func(y *impl.Pipe) { y.Loss = minusZero },
		func(y *impl.Pipe) { y.Rest = 0.5 },
		func(y *impl.Pipe) { y.Slope = nan },
	} {
		y := copiedPipe(x)
		change(&y)
		if impl.SamePipe(x, y) || impl.SamePipe(y, x) {
			t.Errorf("change %d is not seen", i)
		}
	}
	y := copiedPipe(x)
	x.Loss, x.Rest, x.Slope = nan, nan, nan
	y.Loss, y.Rest, y.Slope, y.Right[1].Samples[0] = otherNaN, otherNaN, otherNaN, otherNaN
	want(t, "another NaN", impl.SamePipe(x, y), true)
}

func TestP8LengthsOfPipes(t *testing.T) {
	for _, c := range []struct {
		lengths []int64
		scatter []float32
		length  int64
	}{
		{[]int64{1}, nil, 2}, {[]int64{7}, nil, 14}, {[]int64{3, 4}, []float32{0.1}, 14}, {[]int64{1, 2, 3}, []float32{0.1, 1}, 12}, {[]int64{1024, 1024, 1024}, []float32{0, 0}, 6144},
	} {
		n, code := impl.LengthOfPipe(newPipe(c.lengths, c.scatter, true, 0, 1))
		want(t, "LengthOfPipe", code, impl.OK)
		want(t, "LengthOfPipe", n, c.length)
	}
	for _, x := range validPipes() {
		right, left := alongPipe(x)
		n, code := impl.LengthOfPipe(x)
		want(t, "LengthOfPipe", code, impl.OK)
		want(t, "LengthOfPipe", n, int64(len(right)+len(left)))
	}
	for _, x := range invalidPipes() {
		n, code := impl.LengthOfPipe(x)
		want(t, "LengthOfPipe", code, impl.ErrInvalid)
		want(t, "with an error", n, 0)
	}
}

func TestP8BreathsThatGrow(t *testing.T) {
	counts := []int64{0, 1, 2, 3, 4, 24, 100, impl.MaxBreath}
	kinds := awkward()
	for i, from := range kinds {
		for j, to := range append(kinds, 0.1, -3.7) {
			count := counts[(i+j)%len(counts)]
			expected := make([]float32, count)
			for k := range expected {
				expected[k] = sumOf(from, proOf(difOf(to, from), quoOf(float32(k), float32(count))))
			}
			list, code := impl.BreathRamp(from, to, count)
			want(t, "BreathRamp", code, impl.OK)
			wantSamples(t, "BreathRamp", list, expected)
		}
	}
	list, code := impl.BreathRamp(0.2, 0.9, 24)
	want(t, "BreathRamp", code, impl.OK)
	wantSamples(t, "what was calculated", list, rampOfTests())
	list, code = impl.BreathRamp(1, -1, 4)
	want(t, "BreathRamp", code, impl.OK)
	wantSamples(t, "one that falls", list, []float32{1, 0.5, 0, -0.5})
	for _, count := range []int64{-1, impl.MaxBreath + 1, 1 << 32, 1<<32 + 4, math.MinInt64, math.MaxInt64} {
		list, code := impl.BreathRamp(0, 1, count)
		want(t, "BreathRamp", code, impl.ErrRange)
		want(t, "with an error", len(list), 0)
	}
}
