package tests

import (
	"testing"

	"loop.example/g01173/impl"
)

func TestExamplesOfChapter4(t *testing.T) {
	k, code := impl.ScatterOf(3, 1)
	want(t, "ScatterOf", code, impl.OK)
	wantSample(t, "ScatterOf", k, 0.5)
	wantSample(t, "ReedAt 2", impl.ReedAt(0.75, -0.375, 2), 0)
	wantSample(t, "ReedAt -2", impl.ReedAt(0.75, -0.375, -2), 1)
	x, code := impl.NewPipe([]int64{2}, nil, false, 0, 1)
	want(t, "NewPipe", code, impl.OK)
	x, code = impl.WithReed(x, 0, 0)
	want(t, "WithReed", code, impl.OK)
	_, made, code := impl.PlayPipe(x, []float32{1, 0, 0, 0, 0})
	want(t, "PlayPipe", code, impl.OK)
	wantSamples(t, "PlayPipe", made, []float32{0, 0, 1, 0, 0})
	n, code := impl.LengthOfPipe(x)
	want(t, "LengthOfPipe", code, impl.OK)
	want(t, "LengthOfPipe", n, 4)
}
