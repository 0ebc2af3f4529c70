package tests

import (
	"math/rand/v2"
	"slices"
	"testing"

	"loop.example/g01173/impl"
)

func rooms() model[impl.Room] {
	few := tapped(newRoom([4]int64{3, 5, 2, 4}, 100, 0.5, 0.3), 7, impl.Tap{Back: 3, Gain: 0.5}, impl.Tap{Back: 1, Gain: -0.25}, impl.Tap{Back: 3, Gain: 0.75})
	some := tapped(newRoom([4]int64{20, 33, 47, 61}, 400, 0.3, -0.5), 50, impl.Tap{Back: 50, Gain: 0.4}, impl.Tap{Back: 49, Gain: 0.3})
	long := tapped(newRoom([4]int64{impl.MaxRing, impl.MaxRing, 1, impl.MaxRing}, 100000, 0.1, 1), impl.MaxRing, impl.Tap{Back: impl.MaxRing, Gain: 1})
	return model[impl.Room]{
		"room", impl.StepRoom, impl.PlayRoom, impl.BlockOfRoom, impl.MuteRoom, impl.IsSilentRoom, impl.ValidRoom, impl.SameRoom, impl.RoomText, impl.ReadRoom, stepOfRoom,
		partsOfRoom, []int64{impl.FkOnePole, impl.FkOnePole, impl.FkOnePole, impl.FkOnePole}, impl.MaxSamples,
		[]impl.Room{newRoom([4]int64{1, 1, 1, 1}, 1, 0, 0), few, some, long},
	}
}

func partsOfRoom(x *impl.Room) parts {
	p := parts{rings: []*impl.Ring{&x.Early}, numbers: []*float32{&x.Dry, &x.Wet}, taps: &x.Taps}
	for i := range x.Combs {
		p.rings = append(p.rings, &x.Combs[i].Ring)
		p.numbers = append(p.numbers, &x.Combs[i].Gain)
	}
	for i := range x.Loops {
		p.rings = append(p.rings, &x.Loops[i])
		p.filters = append(p.filters, &x.Damps[i])
		p.numbers = append(p.numbers, &x.Gains[i])
	}
	return p
}

// newRoom is for arguments that NewRoom takes.
func newRoom(lengths [4]int64, tail, keep, wet float32) impl.Room {
	x, _ := impl.NewRoom(lengths, tail, keep, wet)
	return x
}

// tapped is for taps that WithTaps takes.
func tapped(x impl.Room, length int64, taps ...impl.Tap) impl.Room {
	x, _ = impl.WithTaps(x, length, taps)
	return x
}

func wantRoom(t *testing.T, name string, got, expected impl.Room) {
	t.Helper()
	rooms().want(t, name, got, expected)
}

func wantTaps(t *testing.T, name string, got, expected []impl.Tap) {
	t.Helper()
	if len(got) != len(expected) {
		t.Errorf("%s: got %d taps, want %d", name, len(got), len(expected))
		return
	}
	for i, tap := range got {
		want(t, name+", Back of a tap", tap.Back, expected[i].Back)
		wantSample(t, name+", Gain of a tap", tap.Gain, expected[i].Gain)
	}
}

func wantComb(t *testing.T, name string, got, expected impl.Comb) {
	t.Helper()
	wantRing(t, name+", Ring", got.Ring, expected.Ring)
	wantSample(t, name+", Gain", got.Gain, expected.Gain)
}

// validCombs has combs with samples and gains of all kinds.
func validCombs(r *rand.Rand) []impl.Comb {
	var list []impl.Comb
	for i := range 150 {
		c := impl.Comb{Ring: loudRing(r, 1+r.Int64N(5)), Gain: []float32{0.5, -0.7, 0.95, 0, minusZero, 1, -1, leastSample, greatest, -3}[i%10]}
		if i%3 == 0 {
			c.Ring.Samples[r.IntN(len(c.Ring.Samples))] = finiteSamples[r.IntN(len(finiteSamples))]
		}
		list = append(list, c)
	}
	return append(list, impl.Comb{Ring: loudRing(r, impl.MaxRing), Gain: 0.5})
}

// invalidCombs has combs that break one rule each.
func invalidCombs() []impl.Comb {
	var list []impl.Comb
	for _, r := range invalidRings() {
		list = append(list, impl.Comb{Ring: r, Gain: 0.5})
	}
	for _, a := range noForces {
		list = append(list, impl.Comb{Ring: numbered(3, 1), Gain: a})
		for i := range 3 {
			c := impl.Comb{Ring: numbered(3, 1), Gain: 0.5}
			c.Ring.Samples[i] = a
			list = append(list, c)
		}
	}
	return list
}

// stepOfComb is the step of the document, written down once more.
func stepOfComb(c impl.Comb, in float32) (impl.Comb, float32) {
	o := c.Ring.Samples[c.Ring.At]
	w := sumOf(in, proOf(c.Gain, o))
	c.Ring.Samples = slices.Clone(c.Ring.Samples)
	pushInto(&c.Ring, keptOf(w))
	return c, difOf(o, proOf(c.Gain, w))
}

// mixOf is MixFour of the document, written down once more.
func mixOf(x [4]float32) [4]float32 {
	p, q, r, s := sumOf(x[0], x[1]), difOf(x[0], x[1]), sumOf(x[2], x[3]), difOf(x[2], x[3])
	return [4]float32{proOf(0.5, sumOf(p, r)), proOf(0.5, sumOf(q, s)), proOf(0.5, difOf(p, r)), proOf(0.5, difOf(q, s))}
}

// echoOf is m of the document.
func echoOf(x impl.Room) float32 {
	var m float32
	for i, tap := range x.Taps {
		n := int64(len(x.Early.Samples))
		echo := proOf(tap.Gain, x.Early.Samples[(x.Early.At+n-tap.Back)%n])
		m = pick(i == 0, echo, sumOf(m, echo))
	}
	return m
}

// stepOfRoom is the step of the document, written down once more.
func stepOfRoom(x impl.Room, in float32) (impl.Room, float32) {
	x = rooms().copied(x)
	f := sumOf(in, echoOf(x))
	pushInto(&x.Early, keptOf(in))
	for i := range x.Combs {
		x.Combs[i], f = stepOfComb(x.Combs[i], f)
	}
	var o, y [4]float32
	for i, r := range x.Loops {
		o[i] = r.Samples[r.At]
		x.Damps[i], y[i] = stepOf(x.Damps[i], proOf(x.Gains[i], o[i]))
	}
	for i, h := range mixOf(y) {
		pushInto(&x.Loops[i], keptOf(sumOf(f, h)))
	}
	return x, sumOf(proOf(x.Dry, in), proOf(x.Wet, sumOf(sumOf(o[0], o[1]), sumOf(o[2], o[3]))))
}
