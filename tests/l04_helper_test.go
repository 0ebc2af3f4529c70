package tests

import (
	"math"
	"math/rand/v2"
	"slices"
	"testing"

	"loop.example/g01173/impl"
)

var finiteSamples = []float32{0, minusZero, leastSample, -leastSample, mostSub, leastNormal, -leastNormal, 0.3, -0.7, 1, -1, 1e20, greatest, -greatest}

func wantRings(t *testing.T, name string, got, want []impl.Ring) {
	t.Helper()
	if len(got) != len(want) {
		t.Errorf("%s: got %d rings, want %d", name, len(got), len(want))
		return
	}
	for i := range got {
		wantRing(t, name, got[i], want[i])
	}
}

func wantPipe(t *testing.T, name string, got, expected impl.Pipe) {
	t.Helper()
	wantRings(t, name+", Right", got.Right, expected.Right)
	wantRings(t, name+", Left", got.Left, expected.Left)
	wantSamples(t, name+", Scatter", got.Scatter, expected.Scatter)
	wantFilter(t, name+", End", got.End, expected.End)
	want(t, name+", Open", got.Open, expected.Open)
	wantSamples(t, name+", Loss, Rest and Slope", []float32{got.Loss, got.Rest, got.Slope}, []float32{expected.Loss, expected.Rest, expected.Slope})
}

// newPipe is for arguments that NewPipe takes.
func newPipe(lengths []int64, scatter []float32, open bool, keep, loss float32) impl.Pipe {
	x, _ := impl.NewPipe(lengths, scatter, open, keep, loss)
	return x
}

// passing has a reed that passes this share of everything.
func passing(x impl.Pipe, share float32) impl.Pipe {
	x, _ = impl.WithReed(x, share, 0)
	return x
}

func pulsed(x impl.Pipe, section, place int64, force float32) impl.Pipe {
	x, _ = impl.PulsePipe(x, section, place, force)
	return x
}

// copiedPipe shares no memory with x, so that tests may change it.
func copiedPipe(x impl.Pipe) impl.Pipe {
	x.Right, x.Left, x.Scatter = slices.Clone(x.Right), slices.Clone(x.Left), slices.Clone(x.Scatter)
	for i := range x.Right {
		x.Right[i].Samples = slices.Clone(x.Right[i].Samples)
	}
	for i := range x.Left {
		x.Left[i].Samples = slices.Clone(x.Left[i].Samples)
	}
	return x
}

// loudPipe has samples in all rings, which are turned to places of their own.
func loudPipe(r *rand.Rand, x impl.Pipe) impl.Pipe {
	x = copiedPipe(x)
	for _, list := range [][]impl.Ring{x.Right, x.Left} {
		for i := range list {
			n := len(list[i].Samples)
			list[i].At = []int64{0, int64(n - 1), int64(r.IntN(n))}[r.IntN(3)]
			for j := range n {
				list[i].Samples[j] = float32(2*r.Float64() - 1)
			}
		}
	}
	return x
}

// validPipes has pipes with samples, states and numbers of all kinds.
func validPipes() []impl.Pipe {
	random := newRandom()
	list := []impl.Pipe{
		newPipe([]int64{1}, nil, false, 0, 1), newPipe([]int64{2}, nil, true, 0.5, 0), newPipe([]int64{1, 1, 1}, []float32{1, -1}, true, 0, 1),
		loudPipe(random, newPipe([]int64{5}, nil, true, 0.3, 0.9)), loudPipe(random, newPipe([]int64{3, 4}, []float32{0}, false, 0.3, 0.9)),
		loudPipe(random, newPipe([]int64{2, 1, 4}, []float32{0.4, -0.2}, true, 0, 1)), loudPipe(random, newPipe([]int64{2, 1, 4}, []float32{0.4, -0.2}, false, 0, 1)),
		loudPipe(random, newPipe([]int64{impl.MaxRing}, nil, false, 0.1, 1)), loudPipe(random, newPipe([]int64{1, impl.MaxRing, 3}, []float32{0.1, 0.2}, true, 0.1, 1)),
	}
	scatters := []float32{0, minusZero, 1, -1, 0.5, -0.3, leastSample, math.Nextafter32(1, 0)}
	filters := validFilters()
	for i := range 150 {
		var lengths []int64
		var scatter []float32
		for k := range 1 + i%impl.MaxSections {
			lengths = append(lengths, 1+random.Int64N(5))
			if k > 0 {
				scatter = append(scatter, scatters[random.IntN(len(scatters))])
			}
		}
		x := loudPipe(random, newPipe(lengths, scatter, random.IntN(2) == 0, 0, 1))
		for _, r := range slices.Concat(x.Right, x.Left) {
			for j := range r.Samples {
				if random.IntN(5) == 0 {
					r.Samples[j] = finiteSamples[random.IntN(len(finiteSamples))]
				}
			}
		}
		x.End = filterOf(filters, impl.FkOnePole, i*37)
		if i%4 == 0 {
			x.End = impl.OnePole(0.25)
			x.End.S[0] = minusZero
		}
		x.Loss = []float32{0.9, -0.9, 1, 0, minusZero, leastSample, greatest, 1.5}[random.IntN(8)]
		x.Rest = []float32{0.75, 0.75, 0, minusZero, 2, -3, greatest}[random.IntN(7)]
		x.Slope = []float32{-0.375, -0.375, 0, minusZero, 1.5, -greatest}[random.IntN(6)]
		list = append(list, x)
	}
	return list
}

// invalidPipes has pipes that break one rule each, beside good parts.
func invalidPipes() []impl.Pipe {
	good := pulsed(newPipe([]int64{3, 2}, []float32{0.5}, true, 0.25, 0.9), 0, 1, 1)
	list := []impl.Pipe{{}, {End: impl.OnePole(0.5)}}
	with := func(change func(x *impl.Pipe)) {
		x := copiedPipe(good)
		change(&x)
		list = append(list, x)
	}
	two, three := impl.Ring{Samples: make([]float32, 2)}, impl.Ring{Samples: make([]float32, 3)}
	for _, rings := range [][]impl.Ring{nil, {}, {three}, {three, two, two}, {two, three}, {two, two}, {three, three}, {three, {}}, {{}, two}} {
		with(func(x *impl.Pipe) { x.Right = rings })
		with(func(x *impl.Pipe) { x.Left = rings })
	}
	for n := range impl.MaxSections + 3 {
		for m := range impl.MaxSections + 3 {
			if n == m+1 && n <= impl.MaxSections {
				continue
			}
			with(func(x *impl.Pipe) {
				x.Right, x.Left, x.Scatter = slices.Repeat([]impl.Ring{two}, n), slices.Repeat([]impl.Ring{two}, n), make([]float32, m)
			})
		}
	}
	for _, r := range invalidRings() {
		for i := range 2 {
			with(func(x *impl.Pipe) { x.Right[i] = r })
			with(func(x *impl.Pipe) { x.Left[i] = r })
			with(func(x *impl.Pipe) { x.Right[i], x.Left[i] = r, r })
		}
	}
	for _, f := range append(invalidFilters(), impl.OneZero(0.5), allpassFor(0.5), impl.TwoPole(0.1, 0.5), impl.BlockDc(0.5)) {
		with(func(x *impl.Pipe) { x.End = f })
	}
	for _, a := range noForces {
		for i := range 2 {
			for j := range 2 {
				with(func(x *impl.Pipe) { x.Right[i].Samples[j] = a })
				with(func(x *impl.Pipe) { x.Left[i].Samples[j] = a })
			}
		}
		with(func(x *impl.Pipe) { x.Loss = a })
		with(func(x *impl.Pipe) { x.Rest = a })
		with(func(x *impl.Pipe) { x.Slope = a })
	}
	for _, k := range noScatters {
		with(func(x *impl.Pipe) { x.Scatter[0] = k })
	}
	return list
}

var noScatters = []float32{math.Nextafter32(1, 2), math.Nextafter32(-1, -2), 2, -1.5, greatest, infinite, -infinite, nan, otherNaN}

// reedOf is the share of the document, written down once more.
func reedOf(rest, slope, difference float32) float32 {
	return clampOf(sumOf(rest, proOf(slope, difference)))
}

// clampOf is ClampSample with the limit 1.
func clampOf(a float32) float32 {
	switch {
	case a > 1:
		return 1
	case a < -1:
		return -1
	}
	return a
}

// stepOfPipe is the step of the document, written down once more.
func stepOfPipe(x impl.Pipe, breath float32) (impl.Pipe, float32) {
	last := len(x.Right) - 1
	var r, l, toRight, toLeft [impl.MaxSections]float32
	for i := range x.Right {
		r[i] = x.Right[i].Samples[x.Right[i].At]
		l[i] = x.Left[i].Samples[x.Left[i].At]
	}
	d := difOf(l[0], breath)
	toRight[0] = sumOf(breath, proOf(d, reedOf(x.Rest, x.Slope, d)))
	for i, k := range x.Scatter {
		t := proOf(k, difOf(r[i], l[i+1]))
		toRight[i+1] = sumOf(r[i], t)
		toLeft[i] = sumOf(l[i+1], t)
	}
	x = copiedPipe(x)
	var e float32
	x.End, e = stepOf(x.End, r[last])
	toLeft[last] = proOf(x.Loss, e)
	if x.Open {
		toLeft[last] = -toLeft[last]
	}
	for i := range x.Right {
		pushInto(&x.Right[i], keptOf(toRight[i]))
		pushInto(&x.Left[i], keptOf(toLeft[i]))
	}
	return x, e
}

func pushInto(r *impl.Ring, a float32) {
	r.Samples[r.At] = a
	r.At = (r.At + 1) % int64(len(r.Samples))
}

// playedPipe makes steps as the document tells them.
func playedPipe(x impl.Pipe, breath []float32) (impl.Pipe, []float32) {
	var made []float32
	for _, a := range breath {
		var e float32
		x, e = stepOfPipe(x, a)
		made = append(made, e)
	}
	return x, made
}

// alongPipe has the samples of both ways by their places, section after section.
func alongPipe(x impl.Pipe) (right, left []float32) {
	for i := range x.Right {
		newest := fromOldest(x.Right[i])
		slices.Reverse(newest)
		right = append(right, newest...)
		left = append(left, fromOldest(x.Left[i])...)
	}
	return right, left
}

// isSilent looks at all samples and states.
func isSilent(x impl.Pipe) bool {
	right, left := alongPipe(x)
	return !slices.ContainsFunc(slices.Concat(right, left, x.End.S[:]), func(a float32) bool { return a != 0 })
}
