package tests

import (
	"math"
	"testing"

	"loop.example/g01173/impl"
)

func TestP12MutedRooms(t *testing.T) {
	mutedIsQuiet(t, rooms())
}

func TestP12SilentRoomsStaySilent(t *testing.T) {
	silenceStays(t, rooms())
}

func TestP12SilenceOfRoomsIsOfAllSamplesAndStates(t *testing.T) {
	silenceIsOfAll(t, rooms())
}

func TestP12SilenceOfRoomsThatAreNotValid(t *testing.T) {
	silenceIsRefused(t, rooms())
}

func wantTail(t *testing.T, x impl.Room, most, code, steps int64) {
	t.Helper()
	n, got := impl.TailOf(x, most)
	want(t, "TailOf", got, code)
	want(t, "TailOf", n, steps)
}

func TestP12RoomsComeToSilence(t *testing.T) {
	// The numbers of steps are calculated apart from the program.
	four := [4]int64{1, 2, 3, 4}
	for _, c := range []struct {
		room  impl.Room
		in    []float32
		steps int64
	}{
		{newRoom(four, 100, 0, 0), []float32{1}, 1291}, {newRoom([4]int64{1, 1, 1, 1}, 1, 0, 1), []float32{1}, 638}, {newRoom([4]int64{1, 1, 1, 1}, 1, 0, 1), []float32{0}, 0}, {newRoom([4]int64{7, 11, 13, 17}, 300, 0.5, 1), []float32{1}, 4203}, {newRoom([4]int64{5, 6, 7, 8}, 1400, 0.2, 1), []float32{1}, 18111},
		{newRoom([4]int64{5, 6, 7, 8}, 50, 0.9, 1), []float32{leastNormal}, 3}, {newRoom([4]int64{1, impl.MaxRing, 3, 500}, 1, 0.2, 1), []float32{1}, 1657}, {tapped(newRoom([4]int64{1, 1, 1, 1}, 1, 0, 1), 300, impl.Tap{Back: 30, Gain: 0.5}), []float32{1}, 663}, {tapped(newRoom([4]int64{20, 33, 47, 61}, 400, 0.2, 1), 50, impl.Tap{Back: 50, Gain: 0.4}), []float32{-0.5}, 5419},
		{tapped(newRoom([4]int64{3, 5, 2, 4}, 60, 0.3, 0.45), 6, impl.Tap{Back: 4, Gain: 0.6}, impl.Tap{Back: 1, Gain: -0.35}, impl.Tap{Back: 6, Gain: 0.2}), []float32{1, 0.5, -0.25}, 928},
	} {
		x, _, code := impl.PlayRoom(c.room, c.in)
		want(t, "PlayRoom", code, impl.OK)
		wantTail(t, x, impl.MaxTail, impl.OK, c.steps)
		wantTail(t, x, c.steps, impl.OK, c.steps)
		wantTail(t, x, c.steps-1, pick(c.steps == 0, int64(impl.ErrRange), impl.ErrBudget), 0)
	}
}

func TestP12TailsAreTheLeast(t *testing.T) {
	const most = 60
	m := rooms()
	for _, x := range append(m.valid(), fading(m.news[0], 8), fading(m.news[1], 3)) {
		expected := int64(-1)
		y := x
		for n := range int64(most + 1) {
			if m.isQuiet(y) {
				expected = n
				break
			}
			y, _ = stepOfRoom(y, 0)
		}
		if expected < 0 {
			wantTail(t, x, most, impl.ErrBudget, 0)
			continue
		}
		wantTail(t, x, most, impl.OK, expected)
		if expected > 0 {
			wantTail(t, x, expected-1, impl.ErrBudget, 0)
		}
	}
}

// fading has so small a sample in each ring that it does not last.
func fading(x impl.Room, times float32) impl.Room {
	x = rooms().copied(x)
	for _, r := range partsOfRoom(&x).rings {
		r.Samples[0] = times * leastNormal
	}
	return x
}

func TestP12EachRingAndStateIsPartOfTheTail(t *testing.T) {
	quiet := newRoom([4]int64{2, 3, 4, 5}, 1, 0, 1)
	quiet = tapped(quiet, 6)
	for i, r := range partsOfRoom(&quiet).rings {
		for j := range r.Samples {
			x := rooms().copied(quiet)
			ring := partsOfRoom(&x).rings[i]
			ring.Samples[j] = leastSample
			// It is heard no more when it has come to be the oldest one.
			wantTail(t, x, impl.MaxTail, impl.OK, int64(j+1))
			wantTail(t, x, int64(j), impl.ErrBudget, 0)
		}
	}
	for i := range quiet.Damps {
		x := quiet
		x.Damps[i].S[0] = leastNormal
		wantTail(t, x, impl.MaxTail, impl.OK, 1)
		wantTail(t, x, 0, impl.ErrBudget, 0)
	}
}

func TestP12TailsNearMaxTail(t *testing.T) {
	// It is silent behind 20045 steps, as was calculated apart from the program.
	x, _, _ := impl.StepRoom(newRoom([4]int64{5, 6, 7, 8}, 1550, 0.2, 1), 1)
	x, _, code := impl.PlayRoom(x, make([]float32, 44))
	want(t, "PlayRoom", code, impl.OK)
	wantTail(t, x, impl.MaxTail, impl.ErrBudget, 0)
	x, _, _ = impl.StepRoom(x, 0)
	wantTail(t, x, impl.MaxTail, impl.OK, impl.MaxTail)
	wantTail(t, x, impl.MaxTail-1, impl.ErrBudget, 0)
}

func TestP12BoundsOfTails(t *testing.T) {
	silent := rooms().news[1]
	loud, _, _ := impl.StepRoom(silent, 1)
	for _, most := range []int64{0, 1, impl.MaxTail} {
		wantTail(t, silent, most, impl.OK, 0)
	}
	forever := newRoom([4]int64{3, 2, 4, 1}, 100, 0, 1)
	forever.Gains = [4]float32{1, 1, 1, 1}
	forever.Loops[0].Samples[1] = 1
	for _, most := range []int64{0, 1, 1000, impl.MaxTail} {
		wantTail(t, forever, most, impl.ErrBudget, 0)
	}
	for _, most := range []int64{-1, impl.MaxTail + 1, math.MinInt64, math.MaxInt64} {
		wantTail(t, silent, most, impl.ErrRange, 0)
		wantTail(t, loud, most, impl.ErrRange, 0)
	}
	for _, x := range rooms().invalid() {
		for _, most := range []int64{-1, 0, 10, impl.MaxTail + 1} {
			wantTail(t, x, most, impl.ErrInvalid, 0)
		}
	}
}
