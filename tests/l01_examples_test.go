package tests

import (
	"testing"

	"loop.example/g01173/impl"
)

func TestExamplesOfChapter1(t *testing.T) {
	want(t, "ToShort 0.5", impl.ToShort(0.5), 16384)
	want(t, "ToShort 1", impl.ToShort(1), 32767)
	want(t, "ToShort -1", impl.ToShort(-1), -32768)
	wantSample(t, "FlushSample of the least", impl.FlushSample(leastSample), 0)
	wantSample(t, "SineOf 0.25", impl.SineOf(0.25), 1)
	_, next := impl.NextNoise(0)
	want(t, "NextNoise 0", next, 907633385)
	wantSample(t, "RampBlock", impl.RampBlock(filled(1), 0, 1)[8], 0.5)
}
