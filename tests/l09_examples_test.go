package tests

import (
	"testing"

	"loop.example/g01173/impl"
)

func TestExamplesOfChapter9(t *testing.T) {
	s := compiled(t, "rate 4000\nstring a 0 1/2 1/2\nplay a 0 1 3\n")
	x := plucked(newString(quoOf(4000, 440), 0, 0.5), 0.5, 1)
	p, a, code := impl.StepPlayer(newPlayer(s, 1))
	want(t, "StepPlayer", code, impl.OK)
	wantSample(t, "the first one", a, 0)
	wantSounding(t, "behind one step", p, 0)
	_, made := playedOn(t, newPlayer(s, 1), 3)
	_, expected, _ := impl.PlayString(x, 3)
	wantSamples(t, "the first ones", made, expected)
	p, _ = playedOn(t, newPlayer(compiled(t, "rate 1000\nstring a 0 1/2 1/2\nplay a 0 1 3\n"), 1), 1)
	want(t, "with the rate 1000, Skipped", p.Skipped, 1)
	wantSounding(t, "with the rate 1000", p)
}
