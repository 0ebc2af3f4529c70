package tests

import (
	"testing"

	"loop.example/g01173/impl"
)

func TestExamplesOfChapter5(t *testing.T) {
	wantSample(t, "FrictionAt 0", impl.FrictionAt(1, 0), 1)
	wantSample(t, "FrictionAt 1.25", impl.FrictionAt(1, 1.25), 0.0625)
	wantSample(t, "JetAt 0.5", impl.JetAt(0.5), -0.375)
	wantSample(t, "JetAt 2", impl.JetAt(2), 1)
	x, code := impl.NewBow(10, 0.25, 0, 1, 0)
	want(t, "NewBow", code, impl.OK)
	want(t, "at the bridge", len(x.Bridge.Samples), 2)
	want(t, "at the neck", len(x.Neck.Samples), 8)
	x, made, code := impl.StepBow(x, 0.25)
	want(t, "StepBow", code, impl.OK)
	wantSample(t, "StepBow", made, 0)
	wantRing(t, "the bridge", x.Bridge, impl.Ring{Samples: []float32{0.25, 0}, At: 1})
	wantRing(t, "the neck", x.Neck, impl.Ring{Samples: []float32{0.25, 0, 0, 0, 0, 0, 0, 0}, At: 1})
}
