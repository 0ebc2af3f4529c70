package tests

import (
	"math"
	"testing"

	"loop.example/g01173/impl"
)

func wantQuiet(t *testing.T, x impl.Pipe, most, code, steps int64) {
	t.Helper()
	n, got := impl.StepsToSilentPipe(x, most)
	want(t, "StepsToSilentPipe", got, code)
	want(t, "StepsToSilentPipe", n, steps)
}

func TestP8MutedPipes(t *testing.T) {
	for _, x := range validPipes() {
		expected := copiedPipe(x)
		for i := range x.Right {
			clear(expected.Right[i].Samples)
			clear(expected.Left[i].Samples)
		}
		expected.End.S = [2]float32{}
		y, code := impl.MutePipe(x)
		want(t, "MutePipe", code, impl.OK)
		wantPipe(t, "MutePipe", y, expected)
		silent, code := impl.IsSilentPipe(y)
		want(t, "IsSilentPipe", code, impl.OK)
		want(t, "IsSilentPipe", silent, true)
		y, _, _ = impl.PlayPipe(y, make([]float32, 40))
		want(t, "behind it", isSilent(y), true)
	}
}

func TestP8SilentPipes(t *testing.T) {
	quiet := newPipe([]int64{2, 1, 3}, []float32{1, -1}, true, 0.5, 1)
	for _, a := range finiteSamples {
		for i := range 13 {
			x := copiedPipe(quiet)
			for k := range x.Right {
				n := len(x.Right[k].Samples)
				x.Right[k].At, x.Left[k].At = int64(i%n), int64(n-1)
				x.Right[k].Samples[0], x.Left[k].Samples[n-1] = minusZero, minusZero
			}
			x.End.S[0] = minusZero
			switch {
			case i < 2:
				x.Right[0].Samples[i] = a
			case i < 4:
				x.Left[0].Samples[i-2] = a
			case i == 4:
				x.Right[1].Samples[0] = a
			case i == 5:
				x.Left[1].Samples[0] = a
			case i < 9:
				x.Right[2].Samples[i-6] = a
			case i < 12:
				x.Left[2].Samples[i-9] = a
			default:
				x.End.S[0] = a
			}
			silent, code := impl.IsSilentPipe(x)
			want(t, "IsSilentPipe", code, impl.OK)
			want(t, "IsSilentPipe", silent, a == 0)
			wantQuiet(t, x, 0, pick(a == 0, int64(impl.OK), impl.ErrBudget), 0)
		}
	}
	for _, x := range validPipes() {
		silent, _ := impl.IsSilentPipe(x)
		want(t, "IsSilentPipe", silent, isSilent(x))
	}
}

func TestP8PipesComeToSilence(t *testing.T) {
	// The numbers of steps are calculated apart from the program.
	for _, c := range []struct {
		lengths        []int64
		scatter        []float32
		open           bool
		keep, loss     float32
		rest, slope    float32
		section, place int64
		force          float32
		steps          int64
	}{
		{[]int64{2}, nil, false, 0, 1, 0, 0, 0, 0, 1, 4}, {[]int64{5}, nil, true, 0, 1, 0, 0, 0, 4, 1, 6}, {[]int64{5}, nil, true, 0, 1, 0, 0, 0, 0, 1, 10},
		{[]int64{3}, nil, false, 0.5, 1, 0, 0, 0, 1, 1, 129}, {[]int64{1}, nil, true, 0, 0.5, 1, 0, 0, 0, 1, 253}, {[]int64{4, 3}, []float32{0.5}, false, 0, 0.9, 0, 0, 0, 2, 1, 660},
		{[]int64{4, 3}, []float32{-0.5}, true, 0.3, 0.9, 0, 0, 1, 2, -2, 633}, {[]int64{2, 3, 1}, []float32{0.9, -0.9}, false, 0.1, 0.8, 0, 0, 1, 0, 1, 4174},
		{[]int64{10}, nil, true, 0, 0.9, 0.75, -0.375, 0, 3, 1, 4417}, {[]int64{10}, nil, false, 0.2, 0.98, 1, 0, 0, 3, 1, 84538}, {[]int64{impl.MaxRing}, nil, false, 0, 1, 0, 0, 0, 0, 1, 2048},
		{[]int64{3}, nil, true, 0, 0.99, 1, 0, 0, 0, 1, 51725}, {[]int64{9, 8}, []float32{0.8}, false, 0, 0.99, 0, 0, 1, 5, 1, 5947}, {[]int64{6}, nil, true, 0.99, 0.5, 0, 0, 0, 1, 1, 8168},
		{[]int64{9, 8}, []float32{1}, true, 0, 0.9, 0, 0, 1, 5, 1, 13167}, {[]int64{9, 8}, []float32{-1}, true, 0, 0.9, 0, 0, 1, 5, 1, 13167},
	} {
		x, _ := impl.WithReed(newPipe(c.lengths, c.scatter, c.open, c.keep, c.loss), c.rest, c.slope)
		x = pulsed(x, c.section, c.place, c.force)
		wantQuiet(t, x, impl.MaxSettle, impl.OK, c.steps)
		wantQuiet(t, x, c.steps, impl.OK, c.steps)
		wantQuiet(t, x, c.steps-1, impl.ErrBudget, 0)
	}
}

func TestP8PipesThatPassNothingComeToSilence(t *testing.T) {
	random := newRandom()
	for i := range 60 {
		lengths := []int64{1 + random.Int64N(20), 1 + random.Int64N(20), 1 + random.Int64N(20)}[:1+i%3]
		scatter := []float32{0.4 - 0.01*float32(i), 0.01*float32(i) - 0.3}[:len(lengths)-1]
		x := loudPipe(random, newPipe(lengths, scatter, i%2 == 0, float32(random.Float64()*0.9), float32(random.Float64()*0.99)))
		n, code := impl.StepsToSilentPipe(passing(x, 0), impl.MaxSettle)
		want(t, "StepsToSilentPipe", code, impl.OK)
		y := passing(x, 0)
		for n > 0 {
			k := min(n, impl.MaxBreath)
			want(t, "before", isSilent(y), false)
			y, _, _ = impl.PlayPipe(y, make([]float32, k))
			n -= k
		}
		want(t, "behind", isSilent(y), true)
	}
}

func TestP8StepsToSilentPipesAreTheLeast(t *testing.T) {
	for _, x := range append(validPipes(), passing(newPipe([]int64{3, 4}, []float32{0.5}, true, 0, 0), 0)) {
		const most = 60
		expected := int64(-1)
		y := x
		for n := range int64(most + 1) {
			if isSilent(y) {
				expected = n
				break
			}
			y, _ = stepOfPipe(y, 0)
		}
		if expected < 0 {
			wantQuiet(t, x, most, impl.ErrBudget, 0)
			continue
		}
		wantQuiet(t, x, most, impl.OK, expected)
		if expected > 0 {
			wantQuiet(t, x, expected-1, impl.ErrBudget, 0)
		}
	}
}

func TestP8PipesThatGoOnForever(t *testing.T) {
	full := passing(newPipe([]int64{5}, nil, false, 0, 1), 1)
	between := passing(newPipe([]int64{3, 2, 4}, []float32{-1, 1}, true, 0, 0.5), 0)
	for _, x := range []impl.Pipe{pulsed(full, 0, 2, 1), pulsed(passing(full, -1), 0, 4, -3), pulsed(between, 1, 1, 1)} {
		for _, most := range []int64{0, 1, 1000, impl.MaxSettle} {
			wantQuiet(t, x, most, impl.ErrBudget, 0)
		}
	}
}

func TestP8BoundsOfStepsToSilentPipes(t *testing.T) {
	silent := newPipe([]int64{4, 2}, []float32{0.5}, true, 0.3, 1)
	for _, most := range []int64{0, 1, impl.MaxSettle} {
		wantQuiet(t, silent, most, impl.OK, 0)
	}
	for _, most := range []int64{-1, impl.MaxSettle + 1, math.MinInt64, math.MaxInt64} {
		wantQuiet(t, silent, most, impl.ErrRange, 0)
		wantQuiet(t, pulsed(silent, 0, 0, 1), most, impl.ErrRange, 0)
		for _, x := range invalidPipes() {
			wantQuiet(t, x, most, impl.ErrInvalid, 0)
		}
	}
}

func TestP8SilenceOfPipesThatAreNotValid(t *testing.T) {
	for _, x := range invalidPipes() {
		wantQuiet(t, x, 0, impl.ErrInvalid, 0)
		wantQuiet(t, x, 10, impl.ErrInvalid, 0)
		silent, code := impl.IsSilentPipe(x)
		want(t, "IsSilentPipe", code, impl.ErrInvalid)
		want(t, "IsSilentPipe", silent, false)
		y, code := impl.MutePipe(x)
		want(t, "MutePipe", code, impl.ErrInvalid)
		wantPipe(t, "MutePipe", y, impl.Pipe{})
	}
}

func TestP8SilentJustBehindMaxSettle(t *testing.T) {
	x := passing(newPipe([]int64{2}, nil, false, 0, 0), 0)
	x.End = impl.Filter{Kind: impl.FkOnePole, C: [3]float32{0, 0.999}, S: [2]float32{math.Float32frombits(0x48a206fb)}}
	wantQuiet(t, x, impl.MaxSettle, impl.ErrBudget, 0)
	x, _, _ = impl.StepPipe(x, 0)
	wantQuiet(t, x, impl.MaxSettle, impl.OK, impl.MaxSettle)
	wantQuiet(t, x, impl.MaxSettle-1, impl.ErrBudget, 0)
}
