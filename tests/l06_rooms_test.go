package tests

import (
	"math"
	"slices"
	"testing"

	"loop.example/g01173/impl"
)

func TestP12NewRooms(t *testing.T) {
	almost := math.Nextafter32(1, 0)
	for _, c := range []struct {
		lengths         [4]int64
		tail, keep, wet float32
		gains           [4]uint32
	}{
		{[4]int64{3, 5, 2, 4}, 60, 0.3, 0.45, [4]uint32{0x3f36d9a7, 0x3f170cbc, 0x3f4bd71b, 0x3f2540dc}}, {[4]int64{1, 1, 1, 1}, 1, 0, 0, [4]uint32{}}, {[4]int64{1, impl.MaxRing, 1, impl.MaxRing}, 1000000, almost, greatest, [4]uint32{0x3f7fff8c, 0x3f7e3211, 0x3f7fff8c, 0x3f7e3211}},
		{[4]int64{impl.MaxRing, 1, 1, 1}, 20000, minusZero, -greatest, [4]uint32{0x3f357849, 0x3f7fe95e, 0x3f7fe95e, 0x3f7fe95e}}, {[4]int64{2, 1, 2, 1}, 14, leastSample, minusZero, [4]uint32{0x3f0005b1, 0x3f20d954, 0x3f0005b1, 0x3f20d954}}, {[4]int64{1, 1, 2, 1}, 7, 0.5, -leastSample, [4]uint32{0x3f0005b1, 0x3f0005b1, 0, 0x3f0005b1}},
	} {
		x, code := impl.NewRoom(c.lengths, c.tail, c.keep, c.wet)
		want(t, "NewRoom", code, impl.OK)
		expected := impl.Room{Early: impl.Ring{Samples: []float32{0}}, Dry: 1, Wet: c.wet}
		expected.Combs[0] = impl.Comb{Ring: impl.Ring{Samples: make([]float32, 3)}, Gain: 0.5}
		expected.Combs[1] = impl.Comb{Ring: impl.Ring{Samples: make([]float32, 5)}, Gain: 0.5}
		for i, n := range c.lengths {
			expected.Loops[i] = impl.Ring{Samples: make([]float32, n)}
			expected.Damps[i] = impl.Filter{Kind: impl.FkOnePole, C: [3]float32{difOf(1, c.keep), c.keep}}
			expected.Gains[i] = math.Float32frombits(c.gains[i])
		}
		wantRoom(t, "NewRoom", x, expected)
		want(t, "ValidRoom", impl.ValidRoom(x), true)
		want(t, "taps", len(x.Taps), 0)
		wantSilent(t, rooms(), x, true)
	}
}

func wantNoRoom(t *testing.T, lengths [4]int64, tail, keep, wet float32) {
	t.Helper()
	x, code := impl.NewRoom(lengths, tail, keep, wet)
	if code != impl.ErrRange {
		t.Errorf("NewRoom %v, %v, %v, %v: got %d, want %d", lengths, tail, keep, wet, code, impl.ErrRange)
	}
	wantRoom(t, "with an error", x, impl.Room{})
}

func TestP12RoomsOutOfRange(t *testing.T) {
	good := [4]int64{1, 2, 3, impl.MaxRing}
	for _, n := range []int64{0, -1, impl.MaxRing + 1, 1 << 32, 1<<32 + 1, math.MaxInt64, math.MinInt64} {
		for i := range good {
			lengths := good
			lengths[i] = n
			wantNoRoom(t, lengths, 100, 0, 0)
			wantNoRoom(t, lengths, nan, 1, infinite)
		}
	}
	for _, tail := range []float32{math.Nextafter32(1, 0), 0, minusZero, -1, math.Nextafter32(1000000, 2000000), greatest, infinite, -infinite, nan, otherNaN} {
		wantNoRoom(t, good, tail, 0, 0)
	}
	for _, keep := range []float32{1, math.Nextafter32(1, 2), -leastSample, -0.5, greatest, infinite, -infinite, nan, otherNaN} {
		wantNoRoom(t, good, 100, keep, 0)
	}
	for _, wet := range noForces {
		wantNoRoom(t, good, 100, 0, wet)
	}
}

func TestP12RoomsWithTaps(t *testing.T) {
	six := []impl.Tap{{Back: 1, Gain: 0.5}, {Back: 2, Gain: -greatest}, {Back: 2, Gain: minusZero}, {Back: 1, Gain: leastSample}, {Back: 2, Gain: 0.5}, {Back: 1, Gain: greatest}}
	for _, x := range rooms().valid() {
		for _, c := range []struct {
			length int64
			taps   []impl.Tap
		}{
			{1, nil}, {1, []impl.Tap{}}, {impl.MaxRing, nil}, {1, []impl.Tap{{Back: 1, Gain: 1}}}, {2, six}, {7, six[:5]}, {impl.MaxRing, []impl.Tap{{Back: impl.MaxRing, Gain: 0.3}, {Back: 1}}},
		} {
			y, code := impl.WithTaps(x, c.length, c.taps)
			want(t, "WithTaps", code, impl.OK)
			expected := x
			expected.Early, expected.Taps = impl.Ring{Samples: make([]float32, c.length)}, c.taps
			wantRoom(t, "WithTaps", y, expected)
			want(t, "ValidRoom", impl.ValidRoom(y), true)
		}
	}
}

func wantNoTaps(t *testing.T, x impl.Room, length int64, taps []impl.Tap, expected int64) {
	t.Helper()
	y, code := impl.WithTaps(x, length, taps)
	if code != expected {
		t.Errorf("WithTaps %d, %v: got %d, want %d", length, taps, code, expected)
	}
	wantRoom(t, "with an error", y, impl.Room{})
}

func TestP12TapsOutOfRange(t *testing.T) {
	x := rooms().news[1]
	good := impl.Tap{Back: 1, Gain: 0.5}
	lengths := []int64{0, -1, impl.MaxRing + 1, 1 << 32, 1<<32 + 1, math.MaxInt64, math.MinInt64}
	for _, n := range lengths {
		wantNoTaps(t, x, n, nil, impl.ErrRange)
		wantNoTaps(t, x, n, []impl.Tap{good}, impl.ErrRange)
		for i := range 3 {
			taps := []impl.Tap{good, good, good}
			taps[i].Back = n
			wantNoTaps(t, x, impl.MaxRing, taps, impl.ErrRange)
			taps[i].Back = 6
			wantNoTaps(t, x, 5, taps, impl.ErrRange)
		}
	}
	for _, a := range noForces {
		for i := range 3 {
			taps := []impl.Tap{good, good, good}
			taps[i].Gain = a
			wantNoTaps(t, x, 5, taps, impl.ErrRange)
		}
	}
	for _, n := range append(lengths, 1, 5) {
		for _, count := range []int{impl.MaxTaps + 1, 2 * impl.MaxTaps, 100000} {
			wantNoTaps(t, x, n, slices.Repeat([]impl.Tap{good}, count), impl.ErrLimit)
			wantNoTaps(t, x, n, make([]impl.Tap, count), impl.ErrLimit)
			wantNoTaps(t, impl.Room{}, n, make([]impl.Tap, count), impl.ErrInvalid)
		}
	}
	for _, x := range rooms().invalid() {
		wantNoTaps(t, x, 5, []impl.Tap{good}, impl.ErrInvalid)
		wantNoTaps(t, x, 0, nil, impl.ErrInvalid)
		wantNoTaps(t, x, 5, make([]impl.Tap, impl.MaxTaps+1), impl.ErrInvalid)
		wantNoTaps(t, x, 5, []impl.Tap{{Back: 6, Gain: nan}}, impl.ErrInvalid)
	}
}

func TestP12ValidRooms(t *testing.T) {
	validityIsTold(t, rooms())
	x := rooms().news[1]
	for count := range impl.MaxTaps + 3 {
		x.Taps = slices.Repeat([]impl.Tap{{Back: 7, Gain: 1}}, count)
		want(t, "ValidRoom", impl.ValidRoom(x), count <= impl.MaxTaps)
	}
	for back := range int64(impl.MaxRing + 3) {
		for _, n := range []int64{1, 5, impl.MaxRing} {
			x.Early, x.Taps = impl.Ring{Samples: make([]float32, n)}, []impl.Tap{{Back: back}}
			want(t, "ValidRoom", impl.ValidRoom(x), back >= 1 && back <= n)
		}
	}
	// NewComb makes no such combs, but they are valid.
	for _, gain := range []float32{1, -1, 2, greatest, -greatest} {
		x := rooms().news[2]
		x.Combs[0].Gain, x.Combs[1].Gain = gain, -gain
		want(t, "ValidRoom", impl.ValidRoom(x), true)
	}
}

func TestP12SameRooms(t *testing.T) {
	samenessIsTold(t, rooms())
}

func TestP12EnergyOfRooms(t *testing.T) {
	for _, x := range rooms().valid() {
		var sum float64
		for _, r := range x.Loops {
			for _, a := range r.Samples {
				sum += float64(a) * float64(a)
			}
		}
		energy, code := impl.EnergyOfRoom(x)
		want(t, "EnergyOfRoom", code, impl.OK)
		want(t, "EnergyOfRoom", math.Float64bits(energy), math.Float64bits(sum))
		for i := range x.Loops {
			x.Loops[i] = impl.Ring{Samples: []float32{0, minusZero}}
		}
		wantEnergy(t, x, 0)
	}
	for _, x := range rooms().invalid() {
		energy, code := impl.EnergyOfRoom(x)
		want(t, "EnergyOfRoom", code, impl.ErrInvalid)
		want(t, "EnergyOfRoom", energy, 0)
	}
}

func wantEnergy(t *testing.T, x impl.Room, expected float64) {
	t.Helper()
	energy, code := impl.EnergyOfRoom(x)
	want(t, "EnergyOfRoom", code, impl.OK)
	want(t, "EnergyOfRoom", math.Float64bits(energy), math.Float64bits(expected))
}

func TestP12EnergyIsWideAndInOrder(t *testing.T) {
	// Beside great, the square of one other sample is lost, but not that of two.
	const some, great = 1.25, 1 << 27
	less, more := math.Ldexp(1, 54), math.Ldexp(1, 54)+4
	for _, c := range []struct {
		loops  [4]float32
		energy float64
	}{
		{[4]float32{some, some, great, 0}, more}, {[4]float32{0, some, -some, -great}, more}, {[4]float32{great, some, some, 0}, less}, {[4]float32{some, great, some, 0}, less}, {[4]float32{0, some, -great, some}, less},
		{[4]float32{1, 2, 3, 4}, 30}, {[4]float32{leastSample, 0, 0, 0}, math.Ldexp(1, -298)}, {[4]float32{greatest, greatest, greatest, greatest}, 4 * math.MaxFloat32 * math.MaxFloat32}, {[4]float32{minusZero, 0, minusZero, 0}, 0},
	} {
		x := newRoom([4]int64{1, 1, 1, 1}, 1, 0, 0)
		for i, a := range c.loops {
			x.Loops[i].Samples[0] = a
		}
		wantEnergy(t, x, c.energy)
	}
	x := newRoom([4]int64{1, 1, 1, 1}, 1, 0, 0)
	for at := range int64(3) {
		// The order is that of the indices, wherever the oldest sample is.
		x.Loops[1] = impl.Ring{Samples: []float32{great, some, some}, At: at}
		wantEnergy(t, x, less)
		x.Loops[1] = impl.Ring{Samples: []float32{some, some, great}, At: at}
		wantEnergy(t, x, more)
	}
	// What comes early, and what the combs have, does not count.
	x = newRoom([4]int64{1, 1, 1, 1}, 1, 0, 0)
	x.Early.Samples[0], x.Combs[0].Ring.Samples[0], x.Combs[1].Ring.Samples[4] = 1, 1, 1
	wantEnergy(t, x, 0)
}
