package tests

import (
	"testing"

	"loop.example/g01173/impl"
)

func TestP11MutedBowsAndJets(t *testing.T) {
	mutedIsQuiet(t, bows())
	mutedIsQuiet(t, jets())
}

func mutedIsQuiet[T any](t *testing.T, m model[T]) {
	for _, x := range m.valid() {
		expected := m.copied(x)
		p := m.parts(&expected)
		for _, r := range p.rings {
			clear(r.Samples)
		}
		for _, f := range p.filters {
			f.S = [2]float32{}
		}
		y, code := m.mute(x)
		want(t, m.name+", muted", code, impl.OK)
		m.want(t, m.name+", muted", y, expected)
		wantSilent(t, m, y, true)
	}
}

func wantSilent[T any](t *testing.T, m model[T], x T, expected bool) {
	t.Helper()
	silent, code := m.isSilent(x)
	want(t, m.name+", silent", code, impl.OK)
	if silent != expected {
		t.Errorf("%s %.300v: silent: got %v", m.name, x, silent)
	}
}

func TestP11WhatIsSilentStaysSilent(t *testing.T) {
	silenceStays(t, bows())
	silenceStays(t, jets())
}

func silenceStays[T any](t *testing.T, m model[T]) {
	quiet := make([]float32, 50)
	for i := range quiet {
		quiet[i] = []float32{0, minusZero, minusZero, 0, 0}[i%5]
	}
	for i, x := range m.valid() {
		x, _ = m.mute(x)
		p := m.parts(&x)
		if i%2 == 0 {
			for _, r := range p.rings {
				r.Samples[i%len(r.Samples)] = minusZero
			}
			for _, f := range p.filters {
				f.S[0] = minusZero
			}
		}
		wantSilent(t, m, x, true)
		for range 3 {
			y, made, code := m.play(x, quiet)
			want(t, m.name, code, impl.OK)
			for _, a := range made {
				want(t, m.name+", what is heard", a == 0, true)
			}
			want(t, m.name, m.isQuiet(y), true)
			wantSilent(t, m, y, true)
			x, block, code := m.block(y, filled(quiet[i%5]))
			want(t, m.name, code, impl.OK)
			want(t, m.name+", a block", impl.IsSilent(block), true)
			wantSilent(t, m, x, true)
		}
	}
}

func TestP11SilenceIsOfAllSamplesAndStates(t *testing.T) {
	silenceIsOfAll(t, bows())
	silenceIsOfAll(t, jets())
}

func silenceIsOfAll[T any](t *testing.T, m model[T]) {
	for _, x := range m.valid() {
		wantSilent(t, m, x, m.isQuiet(x))
	}
	for _, lengths := range [][2]int64{{1, 1}, {1, 15}, {16, 17}, {33, 2}, {48, 31}} {
		x := m.copied(m.news[1])
		p := m.parts(&x)
		for i, r := range p.rings {
			n := lengths[i%2]
			*r = impl.Ring{Samples: make([]float32, n), At: n - 1}
		}
		if p.taps != nil {
			*p.taps = nil
		}
		for _, a := range finiteSamples {
			for i := range p.rings {
				for j := range p.rings[i].Samples {
					wantQuietBut(t, m, x, a, func(p parts) { p.rings[i].Samples[j] = a })
				}
			}
			for i, kind := range m.kinds {
				_, states := usedOf(kind)
				for j := range states {
					wantQuietBut(t, m, x, a, func(p parts) { p.filters[i].S[j] = a })
				}
			}
		}
	}
	long := m.news[3]
	for _, r := range m.parts(&long).rings {
		n := len(r.Samples)
		for _, j := range []int{0, 1, 15, 16, n / 2, n - 17, n - 16, n - 1} {
			j = min(max(j, 0), n-1)
			r.Samples[j] = leastSample
			wantSilent(t, m, long, false)
			r.Samples[j] = 0
		}
	}
	wantSilent(t, m, long, true)
}

// wantQuietBut has a everywhere where change puts it, and only there.
func wantQuietBut[T any](t *testing.T, m model[T], x T, a float32, change func(p parts)) {
	t.Helper()
	y := m.copied(x)
	change(m.parts(&y))
	want(t, "valid", m.isValid(y), true)
	wantSilent(t, m, y, a == 0)
}

func TestP11SilenceOfBowsAndJetsThatAreNotValid(t *testing.T) {
	silenceIsRefused(t, bows())
	silenceIsRefused(t, jets())
}

func silenceIsRefused[T any](t *testing.T, m model[T]) {
	var none T
	for _, x := range m.invalid() {
		silent, code := m.isSilent(x)
		want(t, m.name, code, impl.ErrInvalid)
		want(t, m.name, silent, false)
		y, code := m.mute(x)
		want(t, m.name, code, impl.ErrInvalid)
		m.want(t, m.name, y, none)
	}
}

func TestP11BowsThatAreNotHeldBack(t *testing.T) {
	// Where the friction is 1, both parts of the string go with the bow.
	x := newBow(10, 0.3, 0, 1, 1)
	for range 3 {
		var made float32
		x, made, _ = impl.StepBow(x, 0.25)
		wantSample(t, "it makes", made, 0)
	}
	wantSamples(t, "the neck", x.Neck.Samples, []float32{0.25, 0.25, 0.25, 0, 0, 0, 0})
	wantSamples(t, "the bridge", x.Bridge.Samples, []float32{0.25, 0.25, 0.25})
	sticks, _ := impl.SticksAt(x, 0)
	want(t, "SticksAt", sticks, true)
	sticks, _ = impl.SticksAt(x, 0.25)
	want(t, "SticksAt", sticks, false)
}
