package tests

import (
	"math"
	"testing"

	"loop.example/g01173/impl"
)

func TestExamplesOfChapter3(t *testing.T) {
	x, code := impl.NewString(4.5, 0, 1)
	want(t, "NewString", code, impl.OK)
	want(t, "samples", len(x.Loop.Samples), 4)
	wantSample(t, "C[0]", x.Tune.C[0], math.Float32frombits(0x3eaaaaab))
	y, code := impl.PluckString(x, 0.5, 1)
	want(t, "PluckString", code, impl.OK)
	wantSamples(t, "PluckString", y.Loop.Samples, []float32{0, 0.5, 1, 0.5})
	p, code := impl.PeriodOf(y)
	want(t, "PeriodOf", code, impl.OK)
	wantSample(t, "PeriodOf", p, 4.5)
}
