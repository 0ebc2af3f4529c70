package tests

import (
	"math"
	"slices"
	"strings"
	"testing"

	"loop.example/g01173/impl"
)

// answersOf has what the functions answer that bows, jets and rooms have alike.
func (m model[T]) answersOf(x, y T, a float32, in []float32, b impl.Block) []any {
	list := []any{m.isValid(x), m.isSame(x, y), m.text(x)}
	made, out, code := m.step(x, a)
	list = append(list, made, out, code)
	made, samples, code := m.play(x, in)
	list = append(list, made, samples, code)
	made, block, code := m.block(x, b)
	list = append(list, made, block, code)
	made, code = m.mute(x)
	list = append(list, made, code)
	silent, code := m.isSilent(x)
	list = append(list, silent, code)
	made, code = m.read(m.text(x))
	return append(list, made, code)
}

func answersOfBows(x, y impl.Bow, a, c float32, n int64, in []float32, b impl.Block) string {
	list := append(bows().answersOf(x, y, a, in, b), impl.FrictionAt(a, c))
	table, code := impl.FrictionTable(a)
	list = append(list, table, code)
	made, code := impl.NewBow(n, a, c, b[0], b[1])
	list = append(list, made, code)
	made, code = impl.NewBow(n, 0.4, 0.5, 1, c)
	list = append(list, made, code)
	made, code = impl.PullBow(x, c)
	list = append(list, made, code)
	sticks, code := impl.SticksAt(x, c)
	return writtenDown(append(list, sticks, code)...)
}

func answersOfJets(x, y impl.Jet, a, c float32, n int64, in []float32, b impl.Block) string {
	list := append(jets().answersOf(x, y, a, in, b), impl.JetAt(c))
	made, code := impl.NewJet(n, 5, a, c, b[0])
	list = append(list, made, code)
	made, code = impl.NewJet(4, n, 0.5, 0.5, c)
	return writtenDown(append(list, made, code)...)
}

func TestP1ReturnsTheSameForAllBowsAndJets(t *testing.T) {
	answersAreTheSame(t, bows(), answersOfBows)
	answersAreTheSame(t, jets(), answersOfJets)
}

func answersAreTheSame[T any](t *testing.T, m model[T], answers func(x, y T, a, c float32, n int64, in []float32, b impl.Block) string) {
	r := newRandom()
	all := append(m.valid(), m.invalid()...)
	kinds := append(awkward(), 0.1, 0.9, 3, 5.5)
	counts := []int64{math.MinInt64, -1, 0, 1, 2, 5, 40, impl.MaxRing, impl.MaxRing + 1, math.MaxInt64}
	ins := [][]float32{nil, {}, {1}, {nan, 0.5, leastSample}, {infinite, -infinite, 0.1, minusZero}, make([]float32, 40)}
	blocks := []impl.Block{{}, filled(nan), anyBlock(r), loudBlock(r), filled(0.5)}
	for i, x := range all {
		y := all[(i*7+1)%len(all)]
		before := writtenDown(x, y)
		for j := range 12 {
			k := i + 5*j
			a, c, n, in, b := kinds[k%len(kinds)], kinds[(3*k+j)%len(kinds)], counts[(k+j)%len(counts)], ins[(k+2*j)%len(ins)], blocks[k%len(blocks)]
			drawn := writtenDown(in)
			first := answers(x, y, a, c, n, in, b)
			want(t, "the second time", answers(x, y, a, c, n, in, b), first)
			want(t, "the speeds", writtenDown(in), drawn)
		}
		want(t, "the arguments", writtenDown(x, y), before)
	}
}

// spare has rings that lie in the middle of one memory, so that all have unused
// capacity; they are one and the same list if shared is true.
func (m model[T]) spare(at int64, shared bool) (T, []float32) {
	x := m.copied(m.news[1])
	rings := m.parts(&x).rings
	memory := make([]float32, 12*len(rings))
	for i := range memory {
		memory[i] = float32(i+1) / 32
	}
	for i, r := range rings {
		n := pick(i == 0 || shared, int64(3), 5)
		first := pick(shared, 2, int64(2+10*i))
		*r = impl.Ring{Samples: memory[first : first+n], At: at % n}
	}
	return x, memory
}

// changers return bows, jets or rooms that x becomes, or is read from.
func (m model[T]) changers() []func(x T) T {
	return []func(x T) T{
		func(x T) T { y, _, _ := m.step(x, 0.4); return y },
		func(x T) T { y, _, _ := m.play(x, nil); return y },
		func(x T) T { y, _, _ := m.play(x, []float32{0.1, 0.2, 0.3, 0.4}); return y },
		func(x T) T { y, _, _ := m.block(x, filled(1)); return y },
		func(x T) T { y, _ := m.mute(x); return y },
		func(x T) T { y, _ := m.read(m.text(x)); return y },
		func(x T) T {
			m.isSilent(x)
			m.isSame(x, x)
			m.isValid(x)
			m.text(x)
			return m.copied(m.news[1])
		},
	}
}

func TestP1BowsAndJetsShareNoMemory(t *testing.T) {
	sharesNothing(t, bows(), append(bows().changers(),
		func(x impl.Bow) impl.Bow { y, _ := impl.PullBow(x, 0.4); return y },
		func(x impl.Bow) impl.Bow { impl.SticksAt(x, 0.4); return newBow(10, 0.3, 0.1, 1, 1) }))
	sharesNothing(t, jets(), append(jets().changers(),
		func(x impl.Jet) impl.Jet { return newJet(3, 3, 0.1, 1, 1) }))
}

func sharesNothing[T any](t *testing.T, m model[T], changers []func(x T) T) {
	for i, change := range changers {
		for at := range int64(10) {
			x, memory := m.spare(at%5, at >= 5)
			before := slices.Clone(memory)
			first, second := change(x), change(x)
			want(t, "valid", m.isValid(first), true)
			wantSamples(t, "the memory", memory, before)
			kept := writtenDown(second)
			rings := m.parts(&first).rings
			for j, r := range rings {
				beside := writtenDown(ringsBut(rings, j))
				overwrite(r.Samples)
				if writtenDown(ringsBut(rings, j)) != beside {
					t.Errorf("%s, change %d: the rings share memory", m.name, i)
				}
			}
			wantSamples(t, "the memory behind", memory, before)
			overwrite(memory)
			if writtenDown(second) != kept {
				t.Errorf("%s, change %d shares memory", m.name, i)
			}
		}
	}
}

func ringsBut(rings []*impl.Ring, k int) []impl.Ring {
	var list []impl.Ring
	for i, r := range rings {
		if i != k {
			list = append(list, *r)
		}
	}
	return list
}

func TestP1RingsOfBowsAndJetsBesideEachOther(t *testing.T) {
	// The ring that is changed is the second one here.
	x := newBow(10, 0.3, 0.1, 1, 1)
	overwrite(x.Bridge.Samples)
	wantSamples(t, "the neck", x.Neck.Samples, make([]float32, 7))
	y := newJet(4, 3, 0.1, 1, 1)
	overwrite(y.Bore.Samples)
	wantSamples(t, "the throat", y.Throat.Samples, make([]float32, 4))
	wantSamples(t, "the next bridge", newBow(10, 0.3, 0.1, 1, 1).Bridge.Samples, make([]float32, 3))
	wantSamples(t, "the next bore", newJet(4, 3, 0.1, 1, 1).Bore.Samples, make([]float32, 3))
}

func TestP1SpeedsAndBreathsAreKept(t *testing.T) {
	speedsAreKept(t, bows())
	speedsAreKept(t, jets())
}

func speedsAreKept[T any](t *testing.T, m model[T]) {
	memory := []float32{91, 92, 0.25, 0.5, 93, 94}
	before := slices.Clone(memory)
	x := m.copied(m.valid()[6])
	kept := writtenDown(x)
	y, made, code := m.play(x, memory[2:4])
	want(t, m.name, code, impl.OK)
	wantSamples(t, "the speeds", memory, before)
	behind := writtenDown(y)
	overwrite(made)
	want(t, "what it is behind", writtenDown(y), behind)
	want(t, "what it was before", writtenDown(x), kept)
	wantSamples(t, "the speeds behind", memory, before)
	_, made, _ = m.play(x, memory[2:4])
	played := writtenDown(made)
	overwrite(memory)
	want(t, "what it makes", writtenDown(made), played)
}

func TestP1ReturnsForLongArgumentsOfChapter5(t *testing.T) {
	longIsTaken(t, bows(), textOfBow)
	longIsTaken(t, jets(), textOfJet)
}

func longIsTaken[T any](t *testing.T, m model[T], good string) {
	for i := range m.parts(&m.news[1]).rings {
		x := m.copied(m.news[1])
		*m.parts(&x).rings[i] = impl.Ring{Samples: make([]float32, 1000000), At: 3}
		want(t, m.name, m.isValid(x), false)
		want(t, m.name+", same", m.isSame(x, m.copied(x)), true)
		want(t, m.name+", text", m.text(x), "")
		wantNotDrawn(t, m, x, []float32{1}, impl.ErrInvalid)
	}
	wantNotDrawn(t, m, m.news[1], make([]float32, 1000000), impl.ErrLimit)
	for _, text := range []string{
		strings.Repeat("\n", 1000000), strings.Repeat(" ", 1000000), strings.Repeat("0", 1000000), m.name + strings.Repeat(" ", 900000), m.name + " " + strings.Repeat("\n", 900000), "\xff", "\x00", good + strings.Repeat("\n", 900000), good + strings.Repeat("1 0 00000000\n", 70000),
		strings.Replace(good, "00000000 3f000000 ff7fffff", strings.Repeat("00000000 ", 110000), 1), strings.Replace(good, "\n3 2 ", "\n3 "+strings.Repeat("2", 900000)+" ", 1), strings.Replace(good, "\n3 2 ", "\n"+strings.Repeat("3", 900000)+" 2 ", 1),
	} {
		wantNoRead(t, m, text)
	}
}

func TestP1NilAndEmptyListsAreEquivalentForBowsAndJets(t *testing.T) {
	nothingIsNothing(t, bows())
	nothingIsNothing(t, jets())
}

func nothingIsNothing[T any](t *testing.T, m model[T]) {
	for i := range m.parts(&m.news[1]).rings {
		none, empty := m.copied(m.news[1]), m.copied(m.news[1])
		m.parts(&none).rings[i].Samples, m.parts(&empty).rings[i].Samples = nil, []float32{}
		want(t, m.name, m.isSame(none, empty) && m.isSame(empty, none), true)
		want(t, m.name, m.isValid(none) || m.isValid(empty), false)
		want(t, m.name, writtenDown(m.answersOf(none, empty, 0.5, nil, filled(1))...), writtenDown(m.answersOf(empty, none, 0.5, []float32{}, filled(1))...))
	}
	x := m.news[1]
	want(t, m.name, writtenDown(m.answersOf(x, x, 0.5, nil, filled(1))...), writtenDown(m.answersOf(x, x, 0.5, []float32{}, filled(1))...))
}
