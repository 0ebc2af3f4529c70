package tests

import (
	"math"
	"testing"

	"loop.example/g01173/impl"
)

func TestP10StepsAreThoseOfTheDocument(t *testing.T) {
	stepsAreTold(t, bows())
	stepsAreTold(t, jets())
}

func stepsAreTold[T any](t *testing.T, m model[T]) {
	random := newRandom()
	noise := loudBlock(random)
	ins := append(awkward(), noise[:]...)
	for _, x := range m.valid() {
		y := x
		for i, a := range ins {
			expected, made := m.told(x, a)
			next, b, code := m.step(x, a)
			want(t, m.name, code, impl.OK)
			wantSample(t, m.name, b, made)
			m.want(t, m.name, next, expected)
			want(t, "valid", m.isValid(next), true)

			expected, made = m.told(y, noise[i%len(noise)])
			y, b, code = m.step(y, noise[i%len(noise)])
			want(t, m.name+", one after the other", code, impl.OK)
			wantSample(t, m.name+", one after the other", b, made)
			m.want(t, m.name+", one after the other", y, expected)
		}
	}
}

func TestP10BowsAndJetsArePlayedInBlocksOfAnyCut(t *testing.T) {
	cutsGoOn(t, bows())
	cutsGoOn(t, jets())
}

func cutsGoOn[T any](t *testing.T, m model[T]) {
	random := newRandom()
	for i, x := range m.valid() {
		one, two, three := loudBlock(random), loudBlock(random), loudBlock(random)
		in := append(append(append([]float32{}, one[:]...), two[:]...), three[:]...)
		in[5], in[20], in[30] = awkward()[i%len(awkward())], minusZero, leastSample
		all, made, code := m.play(x, in)
		want(t, m.name, code, impl.OK)
		behind, expected := m.toldPlay(x, in)
		wantSamples(t, m.name, made, expected)
		m.want(t, m.name, all, behind)
		for cut := range 33 {
			y, first, code := m.play(x, in[:cut])
			want(t, m.name+", up to the cut", code, impl.OK)
			wantSamples(t, m.name+", up to the cut", first, made[:cut])
			read, code := m.read(m.text(y))
			want(t, m.name+", read", code, impl.OK)
			y, block, code := m.block(read, impl.Block(in[cut:cut+16]))
			want(t, m.name+", a block", code, impl.OK)
			wantSamples(t, m.name+", a block", block[:], made[cut:cut+16])
			y, last, _ := m.play(y, in[cut+16:])
			wantSamples(t, m.name+", behind the block", last, made[cut+16:])
			m.want(t, m.name+", behind the block", y, all)
		}
	}
}

func TestP10BlocksOfBowsAndJetsAreSteps(t *testing.T) {
	blocksAreSteps(t, bows())
	blocksAreSteps(t, jets())
}

func blocksAreSteps[T any](t *testing.T, m model[T]) {
	random := newRandom()
	for _, x := range m.valid() {
		for _, b := range []impl.Block{{}, loudBlock(random), anyBlock(random), filled(nan), filled(minusZero), filled(greatest), filled(leastSample), filled(-infinite)} {
			behind, made := m.toldPlay(x, b[:])
			y, block, code := m.block(x, b)
			want(t, m.name, code, impl.OK)
			wantSamples(t, m.name, block[:], made)
			m.want(t, m.name, y, behind)
		}
	}
}

func TestP10CountsOfSpeedsAndBreaths(t *testing.T) {
	countsAreKept(t, bows())
	countsAreKept(t, jets())
}

func countsAreKept[T any](t *testing.T, m model[T]) {
	for _, x := range m.valid() {
		for _, none := range [][]float32{nil, {}} {
			y, made, code := m.play(x, none)
			want(t, m.name+", none", code, impl.OK)
			want(t, m.name+", none", len(made), 0)
			m.want(t, m.name+", none", y, x)
		}
	}
	x := m.news[1]
	in, _ := impl.BreathRamp(0.1, 0.9, int64(m.most))
	behind, expected := m.toldPlay(x, in)
	y, made, code := m.play(x, in)
	want(t, m.name+", most", code, impl.OK)
	wantSamples(t, m.name+", most", made, expected)
	m.want(t, m.name+", most", y, behind)
	for _, n := range []int{m.most + 1, 2 * m.most, 100000} {
		wantNotDrawn(t, m, x, make([]float32, n), impl.ErrLimit)
		for _, y := range m.invalid() {
			wantNotDrawn(t, m, y, make([]float32, n), impl.ErrInvalid)
		}
	}
}

func wantNotDrawn[T any](t *testing.T, m model[T], x T, in []float32, expected int64) {
	t.Helper()
	var none T
	y, made, code := m.play(x, in)
	want(t, m.name, code, expected)
	want(t, m.name+", samples with an error", len(made), 0)
	m.want(t, m.name+", with an error", y, none)
}

func TestP10StepsOfBowsAndJetsThatAreNotValid(t *testing.T) {
	stepsAreRefused(t, bows())
	stepsAreRefused(t, jets())
}

func stepsAreRefused[T any](t *testing.T, m model[T]) {
	var none T
	for _, x := range m.invalid() {
		wantNotDrawn(t, m, x, nil, impl.ErrInvalid)
		wantNotDrawn(t, m, x, []float32{1, nan}, impl.ErrInvalid)
		for _, a := range []float32{1, nan} {
			y, b, code := m.step(x, a)
			want(t, m.name, code, impl.ErrInvalid)
			wantSample(t, m.name+", with an error", b, 0)
			m.want(t, m.name+", with an error", y, none)
			y, block, code := m.block(x, filled(a))
			want(t, m.name, code, impl.ErrInvalid)
			wantBlock(t, m.name+", with an error", block, impl.Block{})
			m.want(t, m.name+", with an error", y, none)
		}
	}
}

func TestP10ValidBowsAndJets(t *testing.T) {
	validityIsTold(t, bows())
	validityIsTold(t, jets())
}

func validityIsTold[T any](t *testing.T, m model[T]) {
	for i, x := range m.valid() {
		if !m.isValid(x) {
			t.Errorf("%s %d is not valid", m.name, i)
		}
	}
	for i, x := range m.invalid() {
		if m.isValid(x) {
			t.Errorf("%s %d is valid", m.name, i)
		}
	}
	// Each ring may have MaxRing samples, whatever the other one has.
	x := m.copied(m.news[1])
	for _, r := range m.parts(&x).rings {
		*r = impl.Ring{Samples: make([]float32, impl.MaxRing), At: impl.MaxRing - 1}
		want(t, m.name, m.isValid(x), true)
	}
}

func TestP10SameBowsAndJets(t *testing.T) {
	samenessIsTold(t, bows())
	samenessIsTold(t, jets())
}

func samenessIsTold[T any](t *testing.T, m model[T]) {
	for _, list := range [][]T{m.valid(), m.invalid()} {
		for i, x := range list {
			want(t, "itself", m.isSame(x, m.copied(x)), true)
			y := list[(i+1)%len(list)]
			want(t, "both ways", m.isSame(x, y), m.isSame(y, x))
		}
	}
	x := m.copied(m.news[1])
	p := m.parts(&x)
	for i := range p.rings {
		wantOther(t, m, x, func(p parts) { p.rings[i].At++ })
		wantOther(t, m, x, func(p parts) { p.rings[i].Samples[0] = minusZero })
		wantOther(t, m, x, func(p parts) { p.rings[i].Samples[len(p.rings[i].Samples)-1] = leastSample })
		wantOther(t, m, x, func(p parts) { p.rings[i].Samples = p.rings[i].Samples[1:] })
		wantOther(t, m, x, func(p parts) { p.rings[i].Samples = nil })
	}
	wantOther(t, m, x, func(p parts) { *p.rings[0], *p.rings[1] = *p.rings[1], *p.rings[0] })
	for i := range p.filters {
		wantOther(t, m, x, func(p parts) { p.filters[i].Kind = impl.FkOneZero })
		wantOther(t, m, x, func(p parts) { p.filters[i].C[0] = nan })
		wantOther(t, m, x, func(p parts) { p.filters[i].C[2] = minusZero })
		wantOther(t, m, x, func(p parts) { p.filters[i].S[0] = minusZero })
		wantOther(t, m, x, func(p parts) { p.filters[i].S[1] = 1 })
	}
	if p.taps != nil {
		samenessOfTapsIsTold(t, m, x)
	}
	for i := range p.numbers {
		wantOther(t, m, x, func(p parts) { *p.numbers[i] = -*p.numbers[i] })
		wantOther(t, m, x, func(p parts) { *p.numbers[i] = nan })
		*p.numbers[i] = 0
		wantOther(t, m, x, func(p parts) { *p.numbers[i] = minusZero })
	}
	y := m.copied(x)
	q := m.parts(&y)
	for i := range p.numbers {
		*p.numbers[i], *q.numbers[i] = nan, otherNaN
	}
	p.rings[1].Samples[0], q.rings[1].Samples[0] = otherNaN, nan
	want(t, "another NaN", m.isSame(x, y), true)
}

func samenessOfTapsIsTold[T any](t *testing.T, m model[T], x T) {
	for i := range *m.parts(&x).taps {
		wantOther(t, m, x, func(p parts) { (*p.taps)[i].Back++ })
		wantOther(t, m, x, func(p parts) { (*p.taps)[i].Gain = 0.125 })
		wantOther(t, m, x, func(p parts) { (*p.taps)[i].Gain = nan })
	}
	wantOther(t, m, x, func(p parts) { *p.taps = (*p.taps)[1:] })
	wantOther(t, m, x, func(p parts) { *p.taps = nil })
	wantOther(t, m, x, func(p parts) { *p.taps = append(*p.taps, impl.Tap{}) })
	wantOther(t, m, x, func(p parts) { (*p.taps)[0], (*p.taps)[1] = (*p.taps)[1], (*p.taps)[0] })
	y := m.copied(x)
	(*m.parts(&x).taps)[0].Gain = minusZero
	(*m.parts(&y).taps)[0].Gain = 0
	want(t, "the sign of 0", m.isSame(x, y), false)
	(*m.parts(&x).taps)[0].Gain = nan
	(*m.parts(&y).taps)[0].Gain = otherNaN
	want(t, "another NaN of a tap", m.isSame(x, y), true)
}

func wantOther[T any](t *testing.T, m model[T], x T, change func(p parts)) {
	t.Helper()
	y := m.copied(x)
	change(m.parts(&y))
	if m.isSame(x, y) || m.isSame(y, x) {
		t.Errorf("%s: a change is not seen", m.name)
	}
}

// ringOfBits has a ring as it was calculated.
func ringOfBits(at int64, bits ...uint32) impl.Ring {
	return impl.Ring{Samples: samplesOfBits(bits...), At: at}
}

// What these two make, and what they are then, was calculated apart from the program.

func TestP10BowsMakeWhatWasCalculated(t *testing.T) {
	x := newBow(13, 0.3, 0.4, 0.95, 3.5)
	expected := x
	x, made, code := impl.PlayBow(x, rampOfTests())
	want(t, "PlayBow", code, impl.OK)
	wantSamples(t, "PlayBow", made, samplesOfBits(
		0, 0, 0, 0x3d395170, 0x3d21c0aa, 0x3d0d538e, 0x3cdcc374, 0x3cbcda5e, 0x3ca73f6d, 0x3c973b88, 0x3c88eb98, 0x3c77c806,
		0x3c6038cf, 0xbd0ded92, 0xbcf2d780, 0xbccfc9ac, 0x3c139b36, 0x3ca0a96c, 0x3caf8822, 0x3c913246, 0x3c6e4872, 0x3c4a9130, 0x3c33830c, 0x3c4021bd))
	expected.Neck = ringOfBits(4, 0xbc1f92ae, 0xbc06cb38, 0xbbe5c557, 0xbbf39848, 0x3d04b402, 0x3d053b47, 0x3c43ffab, 0xbb344494, 0xbc234be2, 0xbc33a732)
	expected.Bridge = ringOfBits(0, 0x3c2aaf22, 0x3c183c1a, 0xbca7df7f)
	expected.Damp.S[0] = math.Float32frombits(0x3c423ec6)
	wantBow(t, "PlayBow", x, expected)

	x, code = impl.PullBow(x, 0.3)
	want(t, "PullBow", code, impl.OK)
	noise, _ := impl.NoiseBlock(5)
	x, block, code := impl.BlockOfBow(x, noise)
	want(t, "BlockOfBow", code, impl.OK)
	wantSamples(t, "BlockOfBow", block[:], samplesOfBits(
		0x3e9eef13, 0x3e9e5b7b, 0x3e8f1ba2, 0x3bd39af0, 0xbdc506f2, 0x3b7c916c, 0xbcc241a0, 0x3c6a7bf0, 0x3d2974d4, 0x3d61deac, 0xbc825882, 0x3c3781a8, 0xbbdf24b8, 0x3e04279e, 0x3e9ec9e6, 0x3e39faa0))
	expected.Neck = ringOfBits(0, 0x3d7591aa, 0xbcd8e58d, 0xbca68807, 0xbd6341a7, 0xbcabac18, 0xbc40dd64, 0xbd7b0da4, 0xbc83b9ec, 0xbe69ac14, 0xbe1e30ac)
	expected.Bridge = ringOfBits(1, 0xbac14ee0, 0x3e43b4b0, 0xbd1ce759)
	expected.Damp.S[0] = math.Float32frombits(0x3e487bb2)
	wantBow(t, "BlockOfBow", x, expected)
}

func TestP10JetsMakeWhatWasCalculated(t *testing.T) {
	x := newJet(4, 7, 0.3, 0.45, -0.55)
	expected := x
	x, made, code := impl.PlayJet(x, rampOfTests())
	want(t, "PlayJet", code, impl.OK)
	wantSamples(t, "PlayJet", made, samplesOfBits(
		0, 0, 0, 0, 0, 0, 0, 0, 0, 0, 0, 0xbe449ba6, 0xbe5e57b5, 0xbe76e121, 0xbe870872, 0xbe91dffd, 0xbe9be3ad, 0xbea50000, 0xbe874898, 0xbe7c7a7b, 0xbe75aba6, 0xbe7112ee, 0xbe715e92, 0xbe604363))
	expected.Throat = ringOfBits(0, 0x3f637ae5, 0x3f6a0d4d, 0x3f712f02, 0x3f771cf8)
	expected.Bore = ringOfBits(3, 0xbe04696c, 0xbdeef860, 0xbdd12d89, 0xbe49085f, 0xbe4a14bf, 0xbe3e26e9, 0xbe25aee9)
	expected.Low.S[0] = math.Float32frombits(0xbe65a10b)
	expected.Dc.S = bitsOf2([2]uint32{0xbe65a10b, 0xbe56ee93})
	wantJet(t, "PlayJet", x, expected)

	noise, _ := impl.NoiseBlock(5)
	x, block, code := impl.BlockOfJet(x, noise)
	want(t, "BlockOfJet", code, impl.OK)
	wantSamples(t, "BlockOfJet", block[:], samplesOfBits(
		0xbe49085f, 0xbe4a14bf, 0xbe3e26e9, 0xbe25aee9, 0xbe04696c, 0xbdeef860, 0xbdd12d89, 0xbda9ac0a, 0xbd49e0ec, 0xbc33cf40, 0x3c91c378, 0xbd10ee22, 0x3eb0b613, 0xbe3de4fe, 0x3eb21ea7, 0xbdc8620e))
	expected.Throat = ringOfBits(0, 0xbb3298e0, 0x3e66c771, 0xbf318210, 0x3d51b7e6)
	expected.Bore = ringOfBits(5, 0x3e8cee43, 0xbeb34936, 0x3ecb7cb8, 0x3e37422d, 0x3e8cd3f2, 0xbdb31961, 0xbe84bf2e)
	expected.Low.S[0] = math.Float32frombits(0xba4d2a80)
	expected.Dc.S = bitsOf2([2]uint32{0xba4d2a80, 0x3c922e20})
	wantJet(t, "BlockOfJet", x, expected)
}
