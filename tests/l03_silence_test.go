package tests

import (
	"math"
	"slices"
	"testing"

	"loop.example/g01173/impl"
)

func TestP6MutedStrings(t *testing.T) {
	for _, x := range validStrings() {
		expected := withRing(x, x.Loop.At, make([]float32, len(x.Loop.Samples))...)
		expected.Tune.S, expected.Damp.S = [2]float32{}, [2]float32{}
		y, code := impl.MuteString(x)
		want(t, "MuteString", code, impl.OK)
		wantString(t, "MuteString", y, expected)
		silent, _ := impl.IsSilentString(y)
		want(t, "IsSilentString", silent, true)
		y, samples, _ := impl.PlayString(y, 40)
		wantSamples(t, "what a silent one makes", samples, make([]float32, 40))
		silent, _ = impl.IsSilentString(y)
		want(t, "behind it", silent, true)
	}
}

func TestP6SilentStrings(t *testing.T) {
	x := newString(5.5, 0.2, 0.9)
	for i := range 9 {
		for _, a := range awkward() {
			y := withRing(x, 2, make([]float32, 5)...)
			switch {
			case i < 5:
				y.Loop.Samples[i] = a
			case i < 7:
				y.Tune.S[i-5] = a
			case i == 7:
				y.Damp.S[0] = a
			case i == 8:
				y = withRing(y, 4, minusZero, minusZero, minusZero, minusZero, a)
				y.Tune.S = [2]float32{minusZero, minusZero}
				y.Damp.S[0] = minusZero
			}
			if !impl.ValidString(y) {
				continue
			}
			silent, code := impl.IsSilentString(y)
			want(t, "IsSilentString", code, impl.OK)
			want(t, "IsSilentString", silent, a == 0)
			wantSilence(t, y, 0, pick(a == 0, int64(impl.OK), impl.ErrBudget), 0)
		}
	}
}

func wantSilence(t *testing.T, x impl.String, most, code, steps int64) {
	t.Helper()
	n, got := impl.StepsToSilence(x, most)
	want(t, "StepsToSilence", got, code)
	want(t, "StepsToSilence", n, steps)
}

func TestP6StringsComeToSilence(t *testing.T) {
	// The numbers of steps are calculated apart from the program.
	for _, c := range []struct {
		period, mix, loss, place, force float32
		steps                           int64
	}{
		{4, 0, 0, 0.5, 1, 5}, {5, 0, 0, 0, 1, 6}, {4.5, 0, 0.5, 0.5, 1, 693}, {3, 0.5, 0.9, 0.5, 1, 2461}, {10.4, 0.3, 0.9, 0.2, 1, 8544},
		{10.4, 0.3, 0.98, 0.2, 1, 44539}, {50.2, 0.5, 0.9, 0.1, -2, 41684}, {100, 0, 0.9, 0.5, 1, 82857}, {3.3, 0, 0.99, 0, 1e30, 97322},
	} {
		x := plucked(newString(c.period, c.mix, c.loss), c.place, c.force)
		wantSilence(t, x, impl.MaxSettle, impl.OK, c.steps)
		wantSilence(t, x, c.steps, impl.OK, c.steps)
		wantSilence(t, x, c.steps-1, impl.ErrBudget, 0)
	}
}

func TestP6StepsToSilenceAreTheLeast(t *testing.T) {
	for _, x := range validStrings() {
		const most = 60
		expected := int64(-1)
		y := x
		for n := range int64(most + 1) {
			states := slices.Concat(y.Loop.Samples, y.Tune.S[:], y.Damp.S[:])
			if !slices.ContainsFunc(states, func(a float32) bool { return a != 0 }) {
				expected = n
				break
			}
			y, _ = stepOfString(y, 0)
		}
		if expected < 0 {
			wantSilence(t, x, most, impl.ErrBudget, 0)
			continue
		}
		wantSilence(t, x, most, impl.OK, expected)
		if expected > 0 {
			wantSilence(t, x, expected-1, impl.ErrBudget, 0)
		}
	}
}

func TestP6StringsThatGoOnForever(t *testing.T) {
	alone := withRing(newString(4, 0, 1), 0, make([]float32, impl.MaxRing)...)
	alone.Loop.Samples[7] = 1
	for _, x := range []impl.String{plucked(newString(20.6, 0.5, 1), 0.3, 1), plucked(newString(3, 0, 1), 0.5, -1), plucked(newString(3, 0, 0.999), 0, 1), alone} {
		for _, most := range []int64{0, 1, 1000, impl.MaxSettle} {
			wantSilence(t, x, most, impl.ErrBudget, 0)
		}
	}
}

func TestP6BoundsOfStepsToSilence(t *testing.T) {
	silent := newString(10, 0.3, 1)
	for _, most := range []int64{0, 1, impl.MaxSettle} {
		wantSilence(t, silent, most, impl.OK, 0)
	}
	for _, most := range []int64{-1, impl.MaxSettle + 1, math.MinInt64, math.MaxInt64} {
		wantSilence(t, silent, most, impl.ErrRange, 0)
		wantSilence(t, plucked(silent, 0.5, 1), most, impl.ErrRange, 0)
		for _, x := range invalidStrings() {
			wantSilence(t, x, most, impl.ErrInvalid, 0)
		}
	}
}

func TestP6SilenceOfStringsThatAreNotValid(t *testing.T) {
	for _, x := range invalidStrings() {
		wantSilence(t, x, 0, impl.ErrInvalid, 0)
		wantSilence(t, x, 10, impl.ErrInvalid, 0)
		silent, code := impl.IsSilentString(x)
		want(t, "IsSilentString", code, impl.ErrInvalid)
		want(t, "IsSilentString", silent, false)
		y, code := impl.MuteString(x)
		want(t, "MuteString", code, impl.ErrInvalid)
		wantString(t, "MuteString", y, impl.String{})
	}
}
