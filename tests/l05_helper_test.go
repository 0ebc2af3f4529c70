package tests

import (
	"math"
	"math/rand/v2"
	"slices"
	"testing"

	"loop.example/g01173/impl"
)

// model has what the document tells of bows, jets and rooms alike, and some of
// it is told of tunings, too.
type model[T any] struct {
	name     string
	step     func(x T, in float32) (T, float32, int64)
	play     func(x T, in []float32) (T, []float32, int64)
	block    func(x T, in impl.Block) (T, impl.Block, int64)
	mute     func(x T) (T, int64)
	isSilent func(x T) (bool, int64)
	isValid  func(x T) bool
	isSame   func(x, y T) bool
	text     func(x T) string
	read     func(text string) (T, int64)
	// told is the step of the document, written down once more.
	told  func(x T, in float32) (T, float32)
	parts func(x *T) parts
	kinds []int64
	// most samples that may come in at once.
	most int
	news []T
}

// parts lead to what a bow, a jet, a room or a tuning has, so that it can be changed.
type parts struct {
	rings   []*impl.Ring
	filters []*impl.Filter
	numbers []*float32
	// taps are nil but for a room, where they are of the first ring.
	taps *[]impl.Tap
	// list is nil but for a tuning.
	list *[]float32
}

func bows() model[impl.Bow] {
	return model[impl.Bow]{
		"bow", impl.StepBow, impl.PlayBow, impl.BlockOfBow, impl.MuteBow, impl.IsSilentBow, impl.ValidBow, impl.SameBow, impl.BowText, impl.ReadBow, stepOfBow,
		func(x *impl.Bow) parts {
			return parts{rings: []*impl.Ring{&x.Neck, &x.Bridge}, filters: []*impl.Filter{&x.Damp}, numbers: []*float32{&x.Slope, &x.Loss}}
		},
		[]int64{impl.FkOnePole}, impl.MaxDraw,
		[]impl.Bow{newBow(2, 0.5, 0, 1, 0), newBow(10, 0.25, 0.5, 0.9, 3), newBow(100, 0.1, 0.3, 0.99, -5), newBow(impl.MaxRing, 0.2, 0.1, 1, 1)},
	}
}

func jets() model[impl.Jet] {
	return model[impl.Jet]{
		"jet", impl.StepJet, impl.PlayJet, impl.BlockOfJet, impl.MuteJet, impl.IsSilentJet, impl.ValidJet, impl.SameJet, impl.JetText, impl.ReadJet, stepOfJet,
		func(x *impl.Jet) parts {
			return parts{rings: []*impl.Ring{&x.Throat, &x.Bore}, filters: []*impl.Filter{&x.Low, &x.Dc}, numbers: []*float32{&x.Near, &x.Far}}
		},
		[]int64{impl.FkOnePole, impl.FkBlock}, impl.MaxDraw,
		[]impl.Jet{newJet(1, 1, 0, 0, 0), newJet(3, 7, 0.5, 0.4, -0.6), newJet(20, 40, 0.3, -1, 1), newJet(impl.MaxRing, impl.MaxRing, 0.1, 0.5, 0.5)},
	}
}

// newBow and newJet are for arguments that NewBow and NewJet take.
func newBow(period int64, place, keep, loss, slope float32) impl.Bow {
	x, _ := impl.NewBow(period, place, keep, loss, slope)
	return x
}

func newJet(throat, bore int64, keep, near, far float32) impl.Jet {
	x, _ := impl.NewJet(throat, bore, keep, near, far)
	return x
}

func wantBow(t *testing.T, name string, got, expected impl.Bow) {
	t.Helper()
	bows().want(t, name, got, expected)
}

func wantJet(t *testing.T, name string, got, expected impl.Jet) {
	t.Helper()
	jets().want(t, name, got, expected)
}

func (m model[T]) want(t *testing.T, name string, got, expected T) {
	t.Helper()
	g, e := m.parts(&got), m.parts(&expected)
	for i := range g.rings {
		wantRing(t, name+", a ring", *g.rings[i], *e.rings[i])
	}
	for i := range g.filters {
		wantFilter(t, name+", a filter", *g.filters[i], *e.filters[i])
	}
	for i := range g.numbers {
		wantSample(t, name+", a number", *g.numbers[i], *e.numbers[i])
	}
	if g.taps != nil {
		wantTaps(t, name, *g.taps, *e.taps)
	}
	if g.list != nil {
		wantSamples(t, name+", the list", *g.list, *e.list)
	}
}

// copied shares no memory with x, so that tests may change it.
func (m model[T]) copied(x T) T {
	p := m.parts(&x)
	for _, r := range p.rings {
		r.Samples = slices.Clone(r.Samples)
	}
	if p.taps != nil {
		*p.taps = slices.Clone(*p.taps)
	}
	return x
}

// isQuiet looks at all samples and states.
func (m model[T]) isQuiet(x T) bool {
	p := m.parts(&x)
	var all []float32
	for _, r := range p.rings {
		all = append(all, r.Samples...)
	}
	for _, f := range p.filters {
		all = append(all, f.S[:]...)
	}
	return !slices.ContainsFunc(all, func(a float32) bool { return a != 0 })
}

// toldPlay makes steps as the document tells them.
func (m model[T]) toldPlay(x T, in []float32) (T, []float32) {
	var made []float32
	for _, a := range in {
		var b float32
		x, b = m.told(x, a)
		made = append(made, b)
	}
	return x, made
}

// loudRing is turned to its first, its last or another index.
func loudRing(r *rand.Rand, n int64) impl.Ring {
	ring := impl.Ring{Samples: make([]float32, n), At: []int64{0, n - 1, r.Int64N(n)}[r.IntN(3)]}
	for i := range ring.Samples {
		ring.Samples[i] = float32(2*r.Float64() - 1)
	}
	return ring
}

// valid has bows, jets or rooms with samples, states and numbers of all kinds,
// and rings of unlike lengths.
func (m model[T]) valid() []T {
	random := newRandom()
	filters := validFilters()
	list := slices.Clone(m.news)
	for _, x := range m.news {
		for _, r := range m.parts(&x).rings {
			*r = loudRing(random, int64(len(r.Samples)))
		}
		list = append(list, x)
	}
	for i := range 150 {
		var x T
		p := m.parts(&x)
		for _, r := range p.rings {
			*r = loudRing(random, 1+random.Int64N(5))
			if i%3 == 0 {
				r.Samples[random.IntN(len(r.Samples))] = finiteSamples[random.IntN(len(finiteSamples))]
			}
		}
		for j, f := range p.filters {
			*f = *m.parts(&m.news[1]).filters[j]
			_, states := usedOf(f.Kind)
			for k := range states {
				f.S[k] = []float32{0, minusZero, 0.3, -0.7}[random.IntN(4)]
			}
			if i%4 == 0 {
				*f = filterOf(filters, m.kinds[j], i*37+j)
			}
		}
		for _, a := range p.numbers {
			*a = []float32{0.9, -0.9, 0.4, 3, 1, 0, minusZero, leastSample, greatest, -1.5}[random.IntN(10)]
		}
		if p.taps != nil {
			*p.taps = tapsOf(random, int64(len(p.rings[0].Samples)), i%(impl.MaxTaps+1))
		}
		list = append(list, x)
	}
	return list
}

// tapsOf may have several taps with the same Back.
func tapsOf(r *rand.Rand, length int64, count int) []impl.Tap {
	var taps []impl.Tap
	for range count {
		gain := []float32{0.5, -0.7, 0.3, 1, 0, minusZero, leastSample, greatest, -1.5}[r.IntN(9)]
		taps = append(taps, impl.Tap{Back: []int64{1, length, 1 + r.Int64N(length)}[r.IntN(3)], Gain: gain})
	}
	return taps
}

// invalid has bows, jets or rooms that break one rule each, beside good parts.
func (m model[T]) invalid() []T {
	var none T
	list := []T{none}
	with := func(change func(p parts)) {
		x := m.copied(m.news[1])
		change(m.parts(&x))
		list = append(list, x)
	}
	for i := range m.parts(&none).rings {
		for _, r := range invalidRings() {
			with(func(p parts) { *p.rings[i] = r })
		}
		for _, a := range noForces {
			with(func(p parts) { p.rings[i].Samples[0] = a })
			with(func(p parts) { p.rings[i].Samples[len(p.rings[i].Samples)-1] = a })
		}
	}
	others := []impl.Filter{impl.OnePole(0.5), impl.OneZero(0.5), allpassFor(0.5), impl.TwoPole(0.1, 0.5), impl.BlockDc(0.5)}
	for i, kind := range m.kinds {
		for _, f := range append(invalidFilters(), others...) {
			if f.Kind != kind || !impl.ValidFilter(f) {
				with(func(p parts) { *p.filters[i] = f })
			}
		}
	}
	for i := range m.parts(&none).numbers {
		for _, a := range noForces {
			with(func(p parts) { *p.numbers[i] = a })
		}
	}
	if m.parts(&none).taps == nil {
		return list
	}
	with(func(p parts) { *p.taps = slices.Repeat(*p.taps, impl.MaxTaps)[:impl.MaxTaps+1] })
	for i := range *m.parts(&m.news[1]).taps {
		for _, a := range noForces {
			with(func(p parts) { (*p.taps)[i].Gain = a })
		}
		for _, n := range []int64{0, -1, int64(len(m.parts(&m.news[1]).rings[0].Samples)) + 1, 1 << 32, 1<<32 + 1, math.MaxInt64, math.MinInt64} {
			with(func(p parts) { (*p.taps)[i].Back = n })
		}
	}
	return list
}

// frictionOf is the friction of the document, written down once more.
func frictionOf(slope, difference float32) float32 {
	w := sumOf(float32(math.Abs(float64(proOf(slope, difference)))), 0.75)
	v := proOf(w, w)
	f := quoOf(1, proOf(v, v))
	if f > 1 {
		return 1
	}
	return f
}

// speedBeside returns u, v and d of a step of a bow, and Damp behind it.
func speedBeside(x impl.Bow, speed float32) (u, v, d float32, damp impl.Filter) {
	damp, e := stepOf(x.Damp, x.Bridge.Samples[x.Bridge.At])
	u, v = -proOf(x.Loss, e), -x.Neck.Samples[x.Neck.At]
	return u, v, difOf(speed, sumOf(u, v)), damp
}

func stepOfBow(x impl.Bow, speed float32) (impl.Bow, float32) {
	made := x.Bridge.Samples[x.Bridge.At]
	u, v, d, damp := speedBeside(x, speed)
	w := proOf(d, frictionOf(x.Slope, d))
	x = bows().copied(x)
	x.Damp = damp
	pushInto(&x.Neck, keptOf(sumOf(u, w)))
	pushInto(&x.Bridge, keptOf(sumOf(v, w)))
	return x, made
}

// edgeOf is JetAt of the document, written down once more.
func edgeOf(p float32) float32 {
	return clampOf(proOf(p, difOf(proOf(p, p), 1)))
}

func stepOfJet(x impl.Jet, breath float32) (impl.Jet, float32) {
	x = jets().copied(x)
	t, b := x.Throat.Samples[x.Throat.At], x.Bore.Samples[x.Bore.At]
	var y, e float32
	x.Low, y = stepOf(x.Low, b)
	x.Dc, e = stepOf(x.Dc, y)
	pushInto(&x.Throat, keptOf(difOf(breath, proOf(x.Near, e))))
	pushInto(&x.Bore, keptOf(sumOf(edgeOf(t), proOf(x.Far, e))))
	return x, b
}
