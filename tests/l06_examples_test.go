package tests

import (
	"math"
	"testing"

	"loop.example/g01173/impl"
)

func TestExamplesOfChapter6(t *testing.T) {
	wantFour(t, "MixFour", impl.MixFour([4]float32{1, 0, 0, 0}), [4]float32{0.5, 0.5, 0.5, 0.5})
	wantFour(t, "SpreadFour", impl.SpreadFour([4]float32{1, 1, 1, 1}, 1), [4]float32{-1, -1, -1, -1})
	gain, code := impl.GainFor(100, 69077.55)
	want(t, "GainFor", code, impl.OK)
	want(t, "GainFor", math.Abs(float64(gain)-0.99005) < 1e-6, true)
	c, code := impl.NewComb(1, 0.5)
	want(t, "NewComb", code, impl.OK)
	for _, pair := range [][2]float32{{1, -0.5}, {0, 0.75}, {0, 0.375}} {
		var made float32
		c, made, code = impl.StepComb(c, pair[0])
		want(t, "StepComb", code, impl.OK)
		wantSample(t, "StepComb", made, pair[1])
	}
}

func TestExampleOfARoomWithWet0(t *testing.T) {
	random := newRandom()
	for _, x := range rooms().valid()[4:8] {
		x.Dry, x.Wet = 1, 0
		for range 5 {
			in := loudBlock(random)
			y, made, code := impl.BlockOfRoom(x, in)
			want(t, "BlockOfRoom", code, impl.OK)
			wantBlock(t, "BlockOfRoom", made, in)
			x = y
		}
	}
}
