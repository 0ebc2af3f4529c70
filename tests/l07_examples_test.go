package tests

import (
	"math"
	"testing"

	"loop.example/g01173/impl"
)

func TestExamplesOfChapter7(t *testing.T) {
	wantPower(t, 3, 8)
	wantPower(t, -1, 0.5)
	power, code := impl.TwoTo(0.5)
	want(t, "TwoTo", code, impl.OK)
	want(t, "TwoTo", math.Abs(float64(power)-1.41421) < 1e-5, true)
	wantLog(t, 8, 3)
	wantCents(t, 2, 1, 1200)
	x, code := impl.EqualTuning(440, 12)
	want(t, "EqualTuning", code, impl.OK)
	wantKey(t, x, 12, 1200, 880)
	wantKey(t, x, -12, -1200, 220)
	wantPeriod(t, x, 0, 44000, 100)
	wantParts(t, 4.5, 4, 0.5)
	wantParts(t, 4.125, 3, 1.125)
	wantRatio(t, 1.5, 10, 3, 2)
}
