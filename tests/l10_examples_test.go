package tests

import (
	"testing"

	"loop.example/g01173/impl"
)

func TestExamplesOfChapter10(t *testing.T) {
	data, code := impl.MakeSoundFile(impl.SfShort, 8000, []float32{0.5, -1})
	want(t, "MakeSoundFile", code, impl.OK)
	want(t, "bytes", len(data), 20)
	kind, rate, samples, code := impl.ReadSoundFile(data)
	want(t, "ReadSoundFile", [3]int64{kind, rate, code}, [3]int64{impl.SfShort, 8000, impl.OK})
	wantSamples(t, "ReadSoundFile", samples, []float32{0.5, -1})
	plan, code := impl.FinishDeeds(exampleStage(t), nil)
	want(t, "FinishDeeds", code, impl.OK)
	text := ""
	for _, d := range plan {
		text += impl.DeedText(d) + ", "
	}
	want(t, "FinishDeeds", text, "quit 0, give 0, deliver 0, work 0, deliver 0, give 0, deliver 0, work 0, deliver 0, sync, ")
	left := uint32(2166136261)
	for range 17 {
		left *= 16777619
	}
	want(t, "CheckOf", impl.CheckOf(0, "", impl.Block{}), left)
}
