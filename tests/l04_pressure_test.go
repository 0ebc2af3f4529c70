package tests

import (
	"math"
	"slices"
	"testing"

	"loop.example/g01173/impl"
)

// turnedPipe has 1, 2, 3 and so on in Right, and 10, 20, 30 and so on in Left,
// from the mouth on, with rings that are turned.
func turnedPipe(n, right, left int64) impl.Pipe {
	x := newPipe([]int64{n}, nil, false, 0, 1)
	x.Right[0].At, x.Left[0].At = right, left
	for place := range n {
		x.Right[0].Samples[(right-1-place+n)%n] = float32(place + 1)
		x.Left[0].Samples[(left+place)%n] = 10 * float32(place+1)
	}
	return x
}

func wantPressure(t *testing.T, name string, x impl.Pipe, section, place int64, expected float32) {
	t.Helper()
	p, code := impl.PressureAt(x, section, place)
	want(t, name, code, impl.OK)
	wantSample(t, name, p, expected)
}

func wantNoPressure(t *testing.T, x impl.Pipe, section, place, expected int64) {
	t.Helper()
	p, code := impl.PressureAt(x, section, place)
	want(t, "PressureAt", code, expected)
	wantSample(t, "with an error", p, 0)
}

func wantNoPulse(t *testing.T, x impl.Pipe, section, place int64, force float32, expected int64) {
	t.Helper()
	y, code := impl.PulsePipe(x, section, place, force)
	want(t, "PulsePipe", code, expected)
	wantPipe(t, "with an error", y, impl.Pipe{})
}

func TestP9PressuresInTurnedRings(t *testing.T) {
	for right := range int64(4) {
		for left := range int64(4) {
			x := turnedPipe(4, right, left)
			for place := range int64(4) {
				wantPressure(t, "PressureAt", x, 0, place, 11*float32(place+1))
			}
		}
	}
}

func TestP9PressuresAreSums(t *testing.T) {
	for _, x := range validPipes() {
		right, left := alongPipe(x)
		for section := range x.Right {
			for place := range x.Right[section].Samples {
				wantPressure(t, "PressureAt", x, int64(section), int64(place), sumOf(right[0], left[0]))
				right, left = right[1:], left[1:]
			}
		}
	}
	x := newPipe([]int64{1}, nil, false, 0, 1)
	for _, c := range [][3]float32{{greatest, greatest, infinite}, {-greatest, -greatest, -infinite}, {leastSample, mostSub, leastNormal}, {leastSample, 0, leastSample}, {leastNormal, -leastSample, mostSub}, {minusZero, minusZero, minusZero}, {minusZero, 0, 0}, {1, -1, 0}} {
		x.Right[0].Samples[0], x.Left[0].Samples[0] = c[0], c[1]
		wantPressure(t, "PressureAt", x, 0, 0, c[2])
		x.Right[0].Samples[0], x.Left[0].Samples[0] = c[1], c[0]
		wantPressure(t, "PressureAt", x, 0, 0, c[2])
	}
}

func TestP9PlacesOutOfRange(t *testing.T) {
	x := newPipe([]int64{3, 1, impl.MaxRing}, []float32{0.5, 0.5}, true, 0.5, 0.5)
	places := []int64{0, 1, 2, 3, impl.MaxRing - 1, impl.MaxRing, 1 << 32, 1<<32 + 1, -1, -3, math.MaxInt64, math.MinInt64}
	for _, section := range []int64{0, 1, 2, 3, 4, -1, 1 << 32, math.MaxInt64, math.MinInt64} {
		for _, place := range places {
			if section >= 0 && section < 3 && place >= 0 && place < []int64{3, 1, impl.MaxRing}[section] {
				wantPressure(t, "a place", x, section, place, 0)
				wantPressure(t, "a pulse", pulsed(x, section, place, 3), section, place, 3)
				for _, force := range noForces {
					wantNoPulse(t, x, section, place, force, impl.ErrRange)
				}
				continue
			}
			wantNoPressure(t, x, section, place, impl.ErrRange)
			for _, force := range append(noForces, 1, 0) {
				wantNoPulse(t, x, section, place, force, impl.ErrRange)
			}
		}
	}
	for _, x := range invalidPipes() {
		for _, section := range []int64{0, 1, 2, -1, math.MaxInt64} {
			for _, place := range places {
				wantNoPressure(t, x, section, place, impl.ErrInvalid)
				wantNoPulse(t, x, section, place, 1, impl.ErrInvalid)
				wantNoPulse(t, x, section, place, nan, impl.ErrInvalid)
			}
		}
	}
}

func TestP9PulsesAreHeardWhereTheyAre(t *testing.T) {
	quiet := passing(newPipe([]int64{4, 3, 5}, []float32{0, 0}, false, 0, 1), 0)
	for range 5 {
		// At is at another index of all rings each time.
		quiet, _, _ = impl.StepPipe(quiet, 0)
		for section, n := range []int64{4, 3, 5} {
			for place := range n {
				wantOnePulse(t, quiet, int64(section), place)
			}
		}
	}
}

// wantOnePulse looks for a pulse where it begins, on its ways, and at the end.
func wantOnePulse(t *testing.T, quiet impl.Pipe, section, place int64) {
	t.Helper()
	x := pulsed(quiet, section, place, 2)
	begin := []int64{0, 4, 7}[section] + place
	var made []float32
	for step := range int64(12) {
		var at int64
		for i, r := range x.Right {
			for k := range int64(len(r.Samples)) {
				var expected float32
				for _, wave := range []int64{begin + step, begin - step, 23 - begin - step} {
					if wave == at {
						expected++
					}
				}
				wantPressure(t, "on its way", x, int64(i), k, expected)
				at++
			}
		}
		next, e, _ := impl.StepPipe(x, 0)
		made = append(made, e)
		x = next
	}
	expected := make([]float32, 12)
	expected[11-begin] = 1
	wantSamples(t, "at the end", made, expected)
}

func TestP9PulsesAddHalfOfTheForce(t *testing.T) {
	for i, x := range validPipes() {
		for section := range x.Right {
			n := int64(len(x.Right[section].Samples))
			for _, place := range []int64{0, n / 2, n - 1} {
				force := finiteSamples[(i+int(place))%len(finiteSamples)]
				expected := copiedPipe(x)
				half := proOf(force, 0.5)
				r, l := expected.Right[section], expected.Left[section]
				a, b := (r.At+n-1-place)%n, (l.At+place)%n
				r.Samples[a] = keptOf(sumOf(r.Samples[a], half))
				l.Samples[b] = keptOf(sumOf(l.Samples[b], half))
				y, code := impl.PulsePipe(x, int64(section), place, force)
				want(t, "PulsePipe", code, impl.OK)
				wantPipe(t, "PulsePipe", y, expected)
			}
		}
	}
}

func TestP9PulsesOfSomeForces(t *testing.T) {
	for _, c := range []struct{ before, force, after float32 }{
		{0, 1, 0.5}, {1, -2, 0}, {0, leastSample, 0}, {0, leastNormal, 0}, {0, 2 * leastNormal, leastNormal}, {leastNormal, leastSample, leastNormal}, {leastNormal, -2 * leastSample, 0}, {mostSub, 2 * leastSample, leastNormal},
		{mostSub, 3 * leastSample, leastNormal + leastSample}, {mostSub, 0, 0}, {leastSample, minusZero, 0}, {minusZero, minusZero, 0}, {minusZero, 0, 0}, {1, 0, 1},
		{greatest, greatest, 0}, {-greatest, -greatest, 0}, {greatest, -greatest, greatest / 2}, {greatest / 2, greatest, greatest}, {greatest, 1, greatest}, {1, leastNormal, 1},
	} {
		for _, way := range []string{"Right", "Left"} {
			x := newPipe([]int64{1, 1}, []float32{0}, false, 0, 1)
			changed := pick(way == "Right", x.Right, x.Left)
			changed[1].Samples[0] = c.before
			x.Right[0].Samples[0], x.Left[0].Samples[0] = leastSample, minusZero
			y, code := impl.PulsePipe(x, 1, 0, c.force)
			want(t, "PulsePipe", code, impl.OK)
			behind := pick(way == "Right", y.Right, y.Left)
			wantSample(t, way, behind[1].Samples[0], c.after)
			wantSamples(t, "another place", []float32{y.Right[0].Samples[0], y.Left[0].Samples[0]}, []float32{leastSample, minusZero})
		}
	}
}

// joined has one section in place of those of x, which has to scatter nothing.
func joined(x impl.Pipe) impl.Pipe {
	right, left := alongPipe(x)
	slices.Reverse(right)
	x.Right, x.Left, x.Scatter = []impl.Ring{{Samples: right}}, []impl.Ring{{Samples: left}}, nil
	return x
}

func TestP9SectionsThatScatterNothingAreOne(t *testing.T) {
	random := newRandom()
	for i, c := range []struct {
		lengths []int64
		scatter []float32
	}{
		{[]int64{1, 1}, []float32{0}}, {[]int64{3, 4}, []float32{0}}, {[]int64{4, 3}, []float32{minusZero}}, {[]int64{2, 5, 3}, []float32{0, 0}}, {[]int64{1, 1, 7}, []float32{minusZero, 0}}, {[]int64{500, 400, 100}, []float32{0, 0}},
	} {
		for _, open := range []bool{false, true} {
			loss := []float32{1, 0.9, 0}[i%3]
			x := newPipe(c.lengths, c.scatter, open, []float32{0, 0.5}[i%2], loss)
			wantJoined(t, x)
			wantJoined(t, loudPipe(random, x))
			wantJoined(t, passing(loudPipe(random, x), 0))
			wantJoined(t, passing(loudPipe(random, x), -1))
		}
	}
}

// wantJoined plays x and the pipe of one section, and looks at all their places.
func wantJoined(t *testing.T, x impl.Pipe) {
	t.Helper()
	y := joined(x)
	want(t, "one section", impl.ValidPipe(y), true)
	noise, _ := impl.NoiseBlock(3)
	breath := append(noise[:], 1, -5, 0, nan, infinite, leastSample, minusZero, -leastNormal, 0.5, 0.5, 0.25)
	for range 6 {
		behind, made, _ := impl.PlayPipe(x, breath)
		other, madeOther, code := impl.PlayPipe(y, breath)
		want(t, "PlayPipe", code, impl.OK)
		wantSamples(t, "sections that are one", made, madeOther)
		x, y = behind, other
		var at int64
		for i, r := range x.Right {
			for k := range int64(len(r.Samples)) {
				p, _ := impl.PressureAt(x, int64(i), k)
				wantPressure(t, "sections that are one", y, 0, at, p)
				at++
			}
		}
		wantFilter(t, "sections that are one", x.End, y.End)
		x, y = pulsed(x, 1, 0, 0.3), pulsed(y, 0, int64(len(x.Right[0].Samples)), 0.3)
	}
	steps, code := impl.StepsToSilentPipe(x, 3000)
	stepsOther, codeOther := impl.StepsToSilentPipe(y, 3000)
	want(t, "sections that are one", steps, stepsOther)
	want(t, "sections that are one", code, codeOther)
}

func TestP9EnergiesOfPipes(t *testing.T) {
	for _, x := range validPipes() {
		var expected float64
		for i := range x.Right {
			for _, a := range slices.Concat(x.Right[i].Samples, x.Left[i].Samples) {
				expected += float64(float64(a) * float64(a))
			}
		}
		e, code := impl.EnergyOfPipe(x)
		want(t, "EnergyOfPipe", code, impl.OK)
		want(t, "EnergyOfPipe", e, expected)
	}
	for _, x := range invalidPipes() {
		e, code := impl.EnergyOfPipe(x)
		want(t, "EnergyOfPipe", code, impl.ErrInvalid)
		want(t, "with an error", e, 0)
	}
}

func TestP9EnergiesAreWideSumsInOrder(t *testing.T) {
	const large, wide = 1 << 27, 1 << 54 // beside wide, 1 is lost, but 3 is not
	for _, c := range []struct {
		name        string
		right, left [][]float32
		at          int64
		energy      float64
	}{
		{"Right before Left", [][]float32{{1, large}}, [][]float32{{1, 1}}, 0, wide},
		{"Left behind Right", [][]float32{{1, 1}}, [][]float32{{1, large}}, 0, wide + 4},
		{"in the order of indices", [][]float32{{large, 1, 1, 1}}, [][]float32{{0, 0, 0, 0}}, 1, wide},
		{"in the order of indices of Left", [][]float32{{0, 0, 0, 0}}, [][]float32{{1, 1, 1, large}}, 3, wide + 4},
		{"section by section", [][]float32{{1}, {1}, {1}}, [][]float32{{large}, {0}, {0}}, 0, wide},
		{"narrow squares would be infinite", [][]float32{{greatest}}, [][]float32{{0}}, 0, float64(greatest) * float64(greatest)},
		{"narrow squares would be 0", [][]float32{{leastSample}}, [][]float32{{-leastSample}}, 0, math.Ldexp(1, -297)},
		{"nothing", [][]float32{{minusZero}}, [][]float32{{minusZero}}, 0, 0},
	} {
		x := newPipe(slices.Repeat([]int64{1}, len(c.right)), make([]float32, len(c.right)-1), true, 0.5, 1)
		x.End.S[0] = 5
		for i := range c.right {
			x.Right[i] = impl.Ring{Samples: c.right[i], At: c.at}
			x.Left[i] = impl.Ring{Samples: c.left[i], At: c.at}
		}
		e, code := impl.EnergyOfPipe(x)
		want(t, c.name, code, impl.OK)
		want(t, c.name, math.Float64bits(e), math.Float64bits(c.energy))
	}
}
