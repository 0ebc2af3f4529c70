package tests

import (
	"testing"

	"loop.example/g01173/impl"
)

func TestExamplesOfChapter2(t *testing.T) {
	r, code := impl.NewRing(2)
	want(t, "NewRing", code, impl.OK)
	for i, a := range []float32{1, 2} {
		next, oldest, code := impl.PushSample(r, a)
		want(t, "PushSample", code, impl.OK)
		wantSample(t, "PushSample", oldest, 0)
		want(t, "At", next.At, int64(1-i))
		r = next
	}
	between, code := impl.ReadBetween(r, 1.5)
	want(t, "ReadBetween", code, impl.OK)
	wantSample(t, "ReadBetween", between, 1.5)
	wantSteps(t, "OnePole 0.5", impl.OnePole(0.5), []float32{1, 0, 0}, []float32{0.5, 0.25, 0.125})
	wantSteps(t, "OneZero 0.5", impl.OneZero(0.5), []float32{1, 0}, []float32{0.5, 0.5})
	f, code := impl.AllpassFor(1)
	want(t, "AllpassFor", code, impl.OK)
	wantSample(t, "AllpassFor 1", f.C[0], 0)
}

// wantSteps returns the filter behind the steps.
func wantSteps(t *testing.T, name string, f impl.Filter, in, out []float32) impl.Filter {
	t.Helper()
	var got []float32
	for _, x := range in {
		next, y, code := impl.StepFilter(f, x)
		want(t, name, code, impl.OK)
		got = append(got, y)
		f = next
	}
	wantSamples(t, name, got, out)
	return f
}
