package tests

import (
	"fmt"
	"math/rand/v2"
	"slices"
	"strings"
	"testing"

	"loop.example/g01173/impl"
)

// wantLast holds the code of the last deed behind others, which can all be done,
// and that one that is refused changes nothing.
func wantLast(t *testing.T, s impl.Stage, before, last string, expected int64) {
	t.Helper()
	list := append(deeds(before), deeds(last)...)
	wantAfter(t, s, list)
	_, done, code := impl.HallAfter(s, list)
	want(t, before+", "+last+": done", [2]int64{done, code}, [2]int64{int64(len(list)) - pick[int64](expected == impl.OK, 0, 1), impl.OK})
	at, why, code := impl.RefusedDeed(s, list)
	if expected == impl.OK {
		want(t, before+", "+last+": RefusedDeed", [3]int64{at, why, code}, [3]int64{0, 0, impl.ErrNotFound})
		return
	}
	want(t, before+", "+last+": RefusedDeed", [3]int64{at, why, code}, [3]int64{int64(len(list)) - 1, expected, impl.OK})
	wantHall(t, before+", "+last, hallOf(t, s, list), hallOf(t, s, deeds(before)))
}

// gives fills the wire with so many cargos.
func gives(n int) string { return strings.TrimSuffix(strings.Repeat("give 0, ", n), ", ") }

func TestP18GiveIsRefused(t *testing.T) {
	for workers := int64(1); workers <= 3; workers++ {
		s := bandStage(t, 2, workers)
		for a := range int64(6) {
			give := fmt.Sprint("give ", a)
			noWorker := a >= workers
			wantLast(t, s, "", give, pick[int64](noWorker, impl.ErrRange, impl.OK))
			wantLast(t, s, rounds(1), give, pick[int64](noWorker, impl.ErrRange, impl.OK))
			wantLast(t, s, rounds(2), give, pick[int64](noWorker, impl.ErrRange, impl.ErrState))
			wantLast(t, s, gives(7), give, pick[int64](noWorker, impl.ErrRange, impl.OK))
			wantLast(t, s, gives(8), give, pick[int64](noWorker, impl.ErrRange, impl.ErrLimit))
			// The wire is full, and all has been played.
			full := "give 0, deliver 0, work 0, copy 0, " + gives(7) + ", deliver 1, work 0, deliver 0, deliver 6"
			wantLast(t, s, full, give, pick[int64](noWorker, impl.ErrRange, impl.ErrState))
		}
		wantLast(t, s, "", "give 999", impl.ErrRange)
	}
	s := bandStage(t, 1, 1)
	wantLast(t, s, gives(8)+", deliver 0, work 0, deliver 7", "give 0", impl.ErrState)
	wantLast(t, s, gives(8)+", deliver 0, work 0, copy 7", "give 0", impl.ErrState)
	wantLast(t, s, rounds(1)+", crash", "give 0", impl.OK)
	wantLast(t, s, rounds(1)+", sync, crash", "give 0", impl.ErrState)
}

func TestP18WorkIsRefused(t *testing.T) {
	for workers := int64(1); workers <= 3; workers++ {
		s := bandStage(t, 2, workers)
		for a := range int64(6) {
			work := fmt.Sprint("work ", a)
			if a >= workers {
				wantLast(t, s, "give 0, deliver 0", work, impl.ErrRange)
				wantLast(t, s, gives(8), work, impl.ErrRange)
				continue
			}
			given := fmt.Sprintf("give %d, deliver 0", a)
			wantLast(t, s, "", work, impl.ErrState)
			wantLast(t, s, given, work, impl.OK)
			wantLast(t, s, given+", "+work, work, impl.ErrState)
			wantLast(t, s, given+", "+fmt.Sprint("quit ", a), work, impl.ErrState)
			wantLast(t, s, gives(8), work, impl.ErrState)
			wantLast(t, s, given+", "+gives(7), work, impl.OK)
			wantLast(t, s, given+", "+gives(8), work, impl.ErrLimit)
			wantLast(t, s, given+", "+gives(8)+", drop 3", work, impl.OK)
			wantLast(t, s, given+", crash, sync", work, impl.OK)
		}
		wantLast(t, s, "", "work 999", impl.ErrRange)
	}
	// What another worker has on its bench is no help.
	wantLast(t, bandStage(t, 2, 3), "give 1, deliver 0", "work 0", impl.ErrState)
	wantLast(t, bandStage(t, 2, 3), "give 1, deliver 0", "work 2", impl.ErrState)
	// A bench stays full where the wire is.
	wantLast(t, bandStage(t, 2, 1), "give 0, deliver 0, "+gives(8)+", drop 0, work 0", "deliver 7", impl.OK)
}

func TestP18CargosThatAreNone(t *testing.T) {
	s := bandStage(t, 3, 2)
	for _, word := range []string{"deliver", "copy", "drop"} {
		for n := range 9 {
			for a := range 11 {
				wantLast(t, s, gives(n), fmt.Sprint(word, " ", a), pick[int64](a < n, impl.OK, impl.ErrRange))
			}
			wantLast(t, s, gives(n), word+" 999", impl.ErrRange)
		}
		wantLast(t, s, rounds(3), word+" 0", impl.ErrRange)
	}
	for n := range 9 {
		for a := range 11 {
			wantLast(t, s, gives(n), fmt.Sprint("spoil ", a, " 0"), pick[int64](a < n, impl.ErrState, impl.ErrRange))
		}
	}
}

func TestP19SpoilIsRefused(t *testing.T) {
	s := bandStage(t, 3, 2)
	mixed := "give 0, deliver 0, give 1, work 0, give 0"
	for _, bit := range []int{0, 1, 22, 30, 31, 32, 33, 63, 64, 65, 96, 256, 999} {
		inRange := pick[int64](bit <= 31, impl.OK, impl.ErrRange)
		wantLast(t, s, mixed, fmt.Sprint("spoil 1 ", bit), inRange)
		wantLast(t, s, mixed, fmt.Sprint("spoil 0 ", bit), pick[int64](bit <= 31, impl.ErrState, impl.ErrRange))
		wantLast(t, s, mixed, fmt.Sprint("spoil 2 ", bit), pick[int64](bit <= 31, impl.ErrState, impl.ErrRange))
		wantLast(t, s, mixed, fmt.Sprint("spoil 3 ", bit), impl.ErrRange)
		wantLast(t, s, "", fmt.Sprint("spoil 0 ", bit), impl.ErrRange)
	}
}

func TestP18QuitIsRefused(t *testing.T) {
	for workers := int64(1); workers <= 3; workers++ {
		s := bandStage(t, 2, workers)
		for a := range int64(6) {
			quit := fmt.Sprint("quit ", a)
			wantLast(t, s, "", quit, pick[int64](a < workers, impl.OK, impl.ErrRange))
			wantLast(t, s, "give 0, deliver 0", quit, pick[int64](a < workers, impl.OK, impl.ErrRange))
			wantLast(t, s, gives(8), quit, pick[int64](a < workers, impl.OK, impl.ErrRange))
		}
		wantLast(t, s, "", "quit 999", impl.ErrRange)
	}
}

func TestP18WhatDeedsDo(t *testing.T) {
	s := bandStage(t, 3, 2)
	m := newTold(t, s)
	first := m.states[0]
	given := impl.Cargo{Worker: 1, State: first}
	hall := hallOf(t, s, deeds("give 1"))
	want(t, "the wire", writtenDown(hall.Wire), writtenDown([]impl.Cargo{given}))
	hall = hallOf(t, s, deeds("give 1, deliver 0"))
	want(t, "the wire", len(hall.Wire), 0)
	want(t, "the benches", writtenDown(hall.Benches), writtenDown([]impl.Bench{{}, {Busy: true, State: first}}))
	hall = hallOf(t, s, deeds("give 1, copy 0"))
	want(t, "the wire", writtenDown(hall.Wire), writtenDown([]impl.Cargo{given}))
	want(t, "the benches", writtenDown(hall.Benches), writtenDown([]impl.Bench{{}, {Busy: true, State: first}}))
	hall = hallOf(t, s, deeds("give 1, deliver 0, work 1"))
	back := impl.Cargo{Back: true, Worker: 1, State: m.states[1], Samples: m.blocks[0], Check: toldCheck(0, m.states[1], m.blocks[0])}
	want(t, "the wire", writtenDown(hall.Wire), writtenDown([]impl.Cargo{back}))
	want(t, "the benches", writtenDown(hall.Benches), writtenDown(make([]impl.Bench, 2)))
	hall = hallOf(t, s, deeds("give 1, deliver 0, work 1, deliver 0"))
	wantHall(t, "the first block", hall, impl.Hall{Done: m.blocks[:1], State: m.states[1], Kept: first, Benches: make([]impl.Bench, 2)})
	hall = hallOf(t, s, deeds("give 1, deliver 0, work 1, deliver 0, sync, give 0, deliver 0"))
	wantHall(t, "behind it", hall, impl.Hall{Done: m.blocks[:1], State: m.states[1], Synced: 1, Kept: m.states[1], Benches: []impl.Bench{{Busy: true, Index: 1, State: m.states[1]}, {}}})
	hall = hallOf(t, s, deeds("give 1, deliver 0, work 1, deliver 0, give 0, deliver 0, work 0"))
	back = impl.Cargo{Back: true, Index: 1, State: m.states[2], Samples: m.blocks[1], Check: toldCheck(1, m.states[2], m.blocks[1])}
	want(t, "the wire", writtenDown(hall.Wire), writtenDown([]impl.Cargo{back}))
}

func TestP19CargosOnTheWireStayInOrder(t *testing.T) {
	s := bandStage(t, 3, 3)
	all := "give 0, give 1, give 2, deliver 0, give 0, work 0, give 1"
	for _, word := range []string{"drop", "deliver", "copy"} {
		for a := range 5 {
			for b := range 5 {
				wantAfter(t, s, deeds(fmt.Sprintf("%s, %s %d, %s %d", all, word, a, word, b)))
			}
		}
	}
	wire := hallOf(t, s, deeds(all+", drop 1")).Wire
	var told []string
	for _, c := range wire {
		told = append(told, fmt.Sprint(c.Worker, c.Back))
	}
	want(t, "the wire", strings.Join(told, ", "), "1 false, 0 false, 0 true, 1 false")
}

func TestP19FullBenchesTakeNothing(t *testing.T) {
	s := bandStage(t, 3, 2)
	// The second cargo has another index than that on the bench.
	before := "give 0, " + round + ", give 0, deliver 0, "
	for _, word := range []string{"deliver 0", "copy 0"} {
		wantAfter(t, s, deeds(before+word))
	}
	hall := hallOf(t, s, deeds("give 0, give 0, deliver 0, work 0, deliver 1, deliver 0, give 0, give 0, deliver 1, deliver 0"))
	want(t, "the bench", hall.Benches[0].Index, 0)
	hall = hallOf(t, s, deeds("give 0, give 0, deliver 0, work 0, deliver 1, give 0, deliver 1, deliver 0"))
	want(t, "the bench", hall.Benches[0].Index, 1)
	wantAfter(t, s, deeds("give 0, give 0, deliver 0, work 0, deliver 1, give 0, deliver 1, deliver 0, work 0, deliver 0"))
	// The bench of another worker is empty.
	wantAfter(t, s, deeds("give 0, give 1, deliver 0, deliver 0, work 1, work 0, deliver 1, deliver 0"))
}

func TestP19CargosThatComeTwiceOrLate(t *testing.T) {
	s := bandStage(t, 4, 3)
	for _, c := range []struct {
		text   string
		blocks int
	}{
		{"give 0, copy 0, work 0, deliver 0, work 0, deliver 0", 1},
		{"give 0, copy 0, work 0, deliver 1, deliver 0, work 0, deliver 0", 1},
		{"give 0, deliver 0, work 0, copy 0, copy 0, deliver 0", 1},
		{"give 0, give 1, deliver 0, deliver 0, work 0, work 1, deliver 0, deliver 0", 1},
		{"give 0, give 1, deliver 0, deliver 0, work 0, work 1, deliver 1, deliver 0", 1},
		// A block that comes late, behind the next one.
		{"give 0, give 1, deliver 0, deliver 0, work 0, work 1, deliver 0, give 0, deliver 1, work 0, deliver 1, deliver 0", 2},
		{"give 0, give 1, give 2, deliver 0, deliver 0, deliver 0, work 2, work 1, work 0, deliver 1, give 1, deliver 2, work 1, deliver 2, deliver 0, deliver 0", 2},
		// A copy that is played again when three blocks are there.
		{"give 0, copy 0, work 0, deliver 1, give 1, deliver 1, work 1, deliver 1, give 1, deliver 1, work 1, deliver 1, deliver 0, work 0, deliver 0", 3},
		// What is lost has to be given again.
		{"give 0, drop 0", 0}, {"give 0, deliver 0, work 0, drop 0", 0}, {"give 0, deliver 0, quit 0, work 0", 0}, {"give 0, drop 0, " + round, 1}, {"give 0, deliver 0, work 0, drop 0, " + round, 1}, {"give 0, deliver 0, quit 0, " + round, 1},
		{rounds(4), 4}, {rounds(4) + ", " + rounds(1), 4},
	} {
		wantBlocksPlayed(t, s, c.text, c.blocks)
	}
}

func TestP19SpoiltCargos(t *testing.T) {
	made := "give 0, deliver 0, work 0, "
	for _, s := range []impl.Stage{loudStage(t, 2, 1), bandStage(t, 2, 1)} {
		for bit := range 32 {
			spoil := fmt.Sprintf("spoil 0 %d, ", bit)
			for _, c := range []struct {
				text   string
				blocks int
			}{
				{made + spoil + "deliver 0", 0}, {made + spoil + "copy 0, deliver 0", 0}, {made + spoil + spoil + "deliver 0", 1}, {made + spoil + "copy 0, " + spoil + "deliver 0", 1}, {made + spoil + spoil + spoil + "deliver 0", 0},
				{made + "copy 0, " + spoil + "deliver 0", 1}, {made + spoil + "deliver 0, " + round, 1}, {round + ", " + made + spoil + "deliver 0", 1}, {round + ", " + made + spoil + "crash, " + spoil + "deliver 0", 0},
			} {
				list := deeds(c.text)
				hall := hallOf(t, s, list)
				want(t, c.text, len(hall.Done), c.blocks)
				wantAfter(t, s, list)
			}
		}
	}
}

func TestP19CargosSpoiltFromAndToNaN(t *testing.T) {
	s := loudStage(t, 2, 1)
	sound, _ := impl.SoundOf(s)
	want(t, "the first sample", sound[0], 1)
	want(t, "that of the second block", sound[16], 1)
	for _, c := range []struct {
		bits   []int
		a      float32
		blocks int
	}{
		// 1 has the bits 3f800000.
		{nil, 1, 1}, {[]int{31}, -1, 0}, {[]int{30}, infinite, 0}, {[]int{30, 31}, -infinite, 0}, {[]int{30, 30}, 1, 1}, {[]int{30, 31, 30, 31}, 1, 1},
		{[]int{30, 0}, nan, 0}, {[]int{30, 0, 0}, nan, 0}, {[]int{30, 0, 0, 30}, 1.5, 0}, {[]int{30, 22}, nan, 0}, {[]int{30, 22, 22}, infinite, 0}, {[]int{30, 22, 22, 30}, 1, 1},
		// Any NaN counts as 7fc00000, whose bit 22 makes it infinite.
		{[]int{30, 5, 22}, infinite, 0}, {[]int{30, 5, 22, 30}, 1, 1}, {[]int{30, 31, 5, 22}, infinite, 0}, {[]int{30, 31, 5, 22, 30}, 1, 1}, {[]int{30, 1, 2, 3, 22, 30}, 1, 1}, {[]int{30, 5, 31}, nan, 0}, {[]int{30, 5, 31, 22, 30}, 1, 1}, {[]int{30, 5, 23}, 0x1.8p127, 0},
	} {
		text := "give 0, deliver 0, work 0"
		for _, bit := range c.bits {
			text += fmt.Sprint(", spoil 0 ", bit)
		}
		hall := hallOf(t, s, deeds(text))
		wantSample(t, text, hall.Wire[0].Samples[0], c.a)
		wantSamples(t, text, hall.Wire[0].Samples[1:], sound[1:16])
		want(t, text, hall.Wire[0].Check, hallOf(t, s, deeds("give 0, deliver 0, work 0")).Wire[0].Check)
		want(t, text, len(hallOf(t, s, deeds(text+", deliver 0")).Done), c.blocks)
		wantAfter(t, s, deeds(text+", deliver 0"))
		wantAfter(t, s, deeds(round+", "+text+", deliver 0"))
	}
}

func TestP19SpoiltCargosLeaveTheOthers(t *testing.T) {
	s := bandStage(t, 3, 3)
	made := "give 0, give 1, give 2, deliver 0, deliver 0, deliver 0, work 0, work 1, work 2, "
	for a := range 3 {
		for last := range 3 {
			text := fmt.Sprintf("%sspoil %d 3, deliver %d", made, a, last)
			wantAfter(t, s, deeds(text))
			want(t, text, len(hallOf(t, s, deeds(text)).Done), pick(a == last, 0, 1))
		}
	}
}

func TestP18RandomDeeds(t *testing.T) {
	random := newRandom()
	for range 400 {
		s := anyStage(t, random)
		list := anyDeeds(random, s, []int{random.IntN(151), random.IntN(30), 150, random.IntN(100)}[random.IntN(4)])
		wantAfter(t, s, list)
	}
}

func TestP18TheBlocksAreTheBeginning(t *testing.T) {
	random := newRandom()
	counts := make([]int, impl.MaxBlocks+1)
	for i := range 90 {
		s := anyStage(t, random)
		s.Workers = int64(i%3 + 1)
		sound, _ := impl.SoundOf(s)
		states := newTold(t, s).states
		list := anyDeeds(random, s, 40)
		if i%2 == 0 {
			list = busyDeeds(random, s)
		}
		for n := range len(list) + 1 {
			hall := hallOf(t, s, list[:n])
			played := int64(len(hall.Done))
			wantSamples(t, textOfDeeds(list[:n]), samplesIn(hall.Done), sound[:16*played])
			want(t, "the state", hall.State, states[played])
			want(t, "no more is synced", hall.Synced <= played, true)
			want(t, "what is kept", hall.Kept, states[hall.Synced])
			counts[played]++
		}
		samples, code := impl.SamplesAfter(s, list)
		want(t, "SamplesAfter", code, impl.OK)
		wantSamples(t, "SamplesAfter", samples, sound[:len(samples)])
	}
	for n, count := range counts {
		if count == 0 {
			t.Errorf("never have %d blocks been played", n)
		}
	}
}

// busyDeeds has rounds by any worker, with other deeds between their own.
func busyDeeds(r *rand.Rand, s impl.Stage) []impl.Deed {
	var list []impl.Deed
	for len(list) < 120 {
		w := r.Int64N(s.Workers)
		one := deeds(fmt.Sprintf("give %d, deliver 0, work %d, copy 0, deliver 0, sync", w, w))
		if r.IntN(2) == 0 {
			at := r.IntN(6)
			one = slices.Insert(one, at, deeds([]string{"copy 0", "spoil 0 7", "crash", "drop 0", fmt.Sprint("quit ", w), fmt.Sprint("give ", w), "sync"}[r.IntN(7)])...)
		}
		list = append(list, one...)
	}
	return list
}
