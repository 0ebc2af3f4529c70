package tests

import (
	"math"
	"slices"
	"strings"
	"testing"

	"loop.example/g01173/impl"
)

func answersOfRooms(x, y impl.Room, a, c float32, n int64, in []float32, b impl.Block) string {
	four := [4]float32{a, c, b[2], b[3]}
	list := append(rooms().answersOf(x, y, a, in, b), impl.MixFour(four), impl.SpreadFour(four, b[4]))
	gain, code := impl.GainFor(n, a)
	list = append(list, gain, code)
	made, code := impl.NewRoom([4]int64{3, n, 2, 1}, a, c, b[0])
	list = append(list, made, code)
	made, code = impl.NewRoom([4]int64{n, 5, 2, n}, 100, c, 1)
	list = append(list, made, code)
	made, code = impl.WithTaps(x, n, y.Taps)
	list = append(list, made, code)
	made, code = impl.WithTaps(x, 5, []impl.Tap{{Back: n, Gain: c}})
	list = append(list, made, code)
	steps, code := impl.TailOf(x, n)
	list = append(list, steps, code)
	energy, code := impl.EnergyOfRoom(x)
	list = append(list, math.Float64bits(energy), code)
	return writtenDown(append(list, answersOfCombs(x.Combs[0], a, c, n)...)...)
}

func answersOfCombs(x impl.Comb, a, c float32, n int64) []any {
	list := []any{impl.ValidComb(x)}
	made, code := impl.NewComb(n, a)
	list = append(list, made, code)
	made, sample, code := impl.StepComb(x, c)
	return append(list, made, sample, code)
}

func TestP1ReturnsTheSameForAllRooms(t *testing.T) {
	answersAreTheSame(t, rooms(), answersOfRooms)
}

func TestP1ReturnsTheSameForAllCombs(t *testing.T) {
	for i, x := range append(validCombs(newRandom()), invalidCombs()...) {
		before := writtenDown(x)
		for j, a := range awkward() {
			c, n := awkward()[(i+3*j)%len(awkward())], []int64{math.MinInt64, -1, 0, 1, 5, impl.MaxRing, impl.MaxRing + 1, math.MaxInt64}[(i+j)%8]
			first := writtenDown(answersOfCombs(x, a, c, n)...)
			want(t, "the second time", writtenDown(answersOfCombs(x, a, c, n)...), first)
		}
		want(t, "the arguments", writtenDown(x), before)
	}
}

func changersOfRooms() []func(x impl.Room) impl.Room {
	return append(rooms().changers(),
		func(x impl.Room) impl.Room { y, _ := impl.WithTaps(x, 4, x.Taps); return y },
		func(x impl.Room) impl.Room {
			impl.TailOf(x, 100)
			impl.EnergyOfRoom(x)
			impl.StepComb(x.Combs[0], 1)
			impl.ValidComb(x.Combs[1])
			return newRoom([4]int64{3, 3, 3, 3}, 10, 0.1, 1)
		})
}

func TestP1RoomsShareNoMemory(t *testing.T) {
	sharesNothing(t, rooms(), changersOfRooms())
}

// overwriteTaps also changes the unused capacity.
func overwriteTaps(taps []impl.Tap) {
	taps = taps[:cap(taps)]
	for i := range taps {
		taps[i] = impl.Tap{Back: 77, Gain: -77}
	}
}

func TestP1TapsShareNoMemory(t *testing.T) {
	for _, change := range changersOfRooms() {
		for _, count := range []int{0, 2, 3} {
			x, _ := rooms().spare(1, false)
			memory := []impl.Tap{{Back: 91, Gain: 1}, {Back: 2, Gain: 2}, {Back: 3, Gain: 3}, {Back: 1, Gain: 4}, {Back: 92, Gain: 5}, {Back: 93, Gain: 6}}
			before := slices.Clone(memory)
			x.Taps = memory[1 : 1+count]
			first, second := change(x), change(x)
			want(t, "valid", impl.ValidRoom(first), true)
			wantTaps(t, "the memory", memory, before)
			kept := writtenDown(second)
			overwriteTaps(first.Taps)
			wantTaps(t, "the memory behind", memory, before)
			want(t, "the second one", writtenDown(second), kept)
			overwriteTaps(memory)
			want(t, "the second one", writtenDown(second), kept)
		}
	}
}

func TestP1TapsThatAreGivenAreKept(t *testing.T) {
	// These are not the taps of the room.
	memory := []impl.Tap{{Back: 91, Gain: 1}, {Back: 4, Gain: 2}, {Back: 1, Gain: 3}, {Back: 92, Gain: 5}}
	before := slices.Clone(memory)
	x := rooms().news[1]
	shown := writtenDown(x)
	y, code := impl.WithTaps(x, 4, memory[1:3])
	want(t, "WithTaps", code, impl.OK)
	z, _ := impl.WithTaps(x, 4, memory[1:3])
	kept := writtenDown(z)
	wantTaps(t, "the memory", memory, before)
	overwriteTaps(y.Taps)
	wantTaps(t, "the memory behind", memory, before)
	overwriteTaps(memory)
	want(t, "WithTaps", writtenDown(z), kept)
	want(t, "the room", writtenDown(x), shown)
}

func TestP1CombsShareNoMemory(t *testing.T) {
	for at := range int64(3) {
		r, memory := spareRing(at)
		before := slices.Clone(memory)
		c := impl.Comb{Ring: r, Gain: 0.5}
		first, _, code := impl.StepComb(c, 1)
		want(t, "StepComb", code, impl.OK)
		second, _, _ := impl.StepComb(c, 1)
		impl.ValidComb(c)
		wantSamples(t, "the memory", memory, before)
		kept := writtenDown(second)
		overwrite(first.Ring.Samples)
		wantSamples(t, "the memory behind", memory, before)
		overwrite(memory)
		want(t, "StepComb", writtenDown(second), kept)
	}
	first, _ := impl.NewComb(4, 0.5)
	overwrite(first.Ring.Samples)
	second, _ := impl.NewComb(4, 0.5)
	wantSamples(t, "NewComb", second.Ring.Samples, make([]float32, 4))
}

func TestP1NewRoomsShareNoMemory(t *testing.T) {
	x := newRoom([4]int64{3, 3, 3, 3}, 10, 0.1, 1)
	kept := writtenDown(x)
	for i, r := range partsOfRoom(&x).rings {
		beside := writtenDown(ringsBut(partsOfRoom(&x).rings, i))
		overwrite(r.Samples)
		want(t, "the other rings", writtenDown(ringsBut(partsOfRoom(&x).rings, i)), beside)
	}
	want(t, "the next room", writtenDown(newRoom([4]int64{3, 3, 3, 3}, 10, 0.1, 1)), kept)
}

func TestP1SamplesForRoomsAreKept(t *testing.T) {
	speedsAreKept(t, rooms())
}

func TestP1ReturnsForLongArgumentsOfChapter6(t *testing.T) {
	longIsTaken(t, rooms(), textOfRoom)
	m := rooms()
	x := m.copied(m.news[1])
	x.Taps = slices.Repeat([]impl.Tap{{Back: 1, Gain: 1}}, 300000)
	want(t, "ValidRoom", impl.ValidRoom(x), false)
	want(t, "SameRoom", impl.SameRoom(x, m.copied(x)), true)
	want(t, "RoomText", impl.RoomText(x), "")
	wantNotDrawn(t, m, x, []float32{1}, impl.ErrInvalid)
	wantNoTaps(t, m.news[1], 5, x.Taps, impl.ErrLimit)
	const tap = "tap 3 3dcccccd\n"
	for _, text := range []string{
		strings.Replace(textOfRoom, tap, strings.Repeat(tap, 60000), 1), "room 3f400000 be800000\n" + strings.Repeat("tap ", 240000), "room 3f400000 be800000\n" + strings.Repeat(tap, 60000), strings.Replace(textOfRoom, tap, "tap "+strings.Repeat("3", 900000)+" 3dcccccd\n", 1), "room 3f400000 be800000\ntap " + strings.Repeat("\n", 900000), strings.Repeat("tap 3 ", 150000),
	} {
		wantNoRead(t, m, text)
	}
	long := impl.Comb{Ring: impl.Ring{Samples: make([]float32, 1000000)}, Gain: 0.5}
	want(t, "ValidComb", impl.ValidComb(long), false)
	_, _, code := impl.StepComb(long, 1)
	want(t, "StepComb", code, impl.ErrInvalid)
}

func TestP1NilAndEmptyListsAreEquivalentForRooms(t *testing.T) {
	nothingIsNothing(t, rooms())
	none, empty := rooms().news[1], rooms().news[1]
	none.Taps, empty.Taps = nil, []impl.Tap{}
	want(t, "SameRoom", impl.SameRoom(none, empty) && impl.SameRoom(empty, none), true)
	want(t, "answers", writtenDown(rooms().answersOf(none, empty, 0.5, nil, filled(1))...), writtenDown(rooms().answersOf(empty, none, 0.5, []float32{}, filled(1))...))
	first, one := impl.WithTaps(none, 3, nil)
	second, two := impl.WithTaps(none, 3, []impl.Tap{})
	want(t, "WithTaps", one, impl.OK)
	want(t, "WithTaps", two, impl.OK)
	wantRoom(t, "WithTaps", first, second)
}
