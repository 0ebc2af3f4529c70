package tests

import (
	"testing"

	"loop.example/g01173/impl"
)

const textOfExample = "string a 1/4 1 1/2\nrepeat 2\nplay a 0 1 100\nwait 50\nend\n"

func TestExamplesOfChapter8(t *testing.T) {
	s := firstScore([]impl.Instrument{{Name: "a", Kind: impl.IkString, A: 0.25, B: 1, C: 0.5}}, start(0, 0, 0, 0, 1), start(50, 1, 0, 0, 1), stop(100, 0), stop(150, 1))
	wantCompiled(t, textOfExample, s)
	wantNotes(t, s, 2)
	wantMost(t, s, 2)
	s.Events[0].Key, s.Events[1].Key = 12, 12
	wantTransposed(t, compiled(t, textOfExample), 12, s)
}
