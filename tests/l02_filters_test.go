package tests

import (
	"math"
	"testing"

	"loop.example/g01173/impl"
)

func TestP4ValidFilters(t *testing.T) {
	for _, f := range validFilters() {
		if !impl.ValidFilter(f) {
			t.Errorf("%v is not valid", f)
		}
	}
	for _, f := range invalidFilters() {
		if impl.ValidFilter(f) {
			t.Errorf("%v is valid", f)
		}
	}
}

func TestMadeFiltersMayBeNotValid(t *testing.T) {
	for _, a := range []float32{nan, infinite, -infinite} {
		for _, f := range []impl.Filter{impl.OnePole(a), impl.OneZero(a), impl.BlockDc(a), impl.TwoPole(a, 0.5), impl.TwoPole(0.3, a)} {
			want(t, "ValidFilter", impl.ValidFilter(f), false)
		}
		wantFilter(t, "OnePole", impl.OnePole(a), impl.Filter{Kind: impl.FkOnePole, C: [3]float32{-a, a, 0}})
		wantFilter(t, "OneZero", impl.OneZero(a), impl.Filter{Kind: impl.FkOneZero, C: [3]float32{-a, a, 0}})
		wantFilter(t, "BlockDc", impl.BlockDc(a), impl.Filter{Kind: impl.FkBlock, C: [3]float32{a, 0, 0}})
		wantFilter(t, "TwoPole", impl.TwoPole(a, 0.5), impl.Filter{Kind: impl.FkTwoPole, C: [3]float32{0.5, nan, 0.25}})
	}
	loud := impl.TwoPole(0, greatest)
	wantFilter(t, "too great a radius", loud, impl.Filter{Kind: impl.FkTwoPole, C: [3]float32{-greatest, -infinite, infinite}})
	want(t, "ValidFilter", impl.ValidFilter(loud), false)
	want(t, "ValidFilter", impl.ValidFilter(impl.OnePole(greatest)), true)
	wantFilter(t, "2 and radius first", impl.TwoPole(0.2, greatest), impl.Filter{Kind: impl.FkTwoPole, C: [3]float32{-greatest, -infinite, infinite}})
	wantFilter(t, "2 and radius first", impl.TwoPole(0.1, 3*leastSample), impl.Filter{Kind: impl.FkTwoPole, C: [3]float32{1, -5 * leastSample, 0}})
}

func TestP4SameFilters(t *testing.T) {
	f := impl.Filter{Kind: 9, C: [3]float32{nan, minusZero, 1}, S: [2]float32{infinite, leastSample}}
	want(t, "the filter itself", impl.SameFilter(f, f), true)
	other := f
	other.C[0] = otherNaN
	want(t, "another NaN", impl.SameFilter(f, other), true)
	other.Kind = 8
	want(t, "another Kind", impl.SameFilter(f, other), false)
	for i, a := range []float32{0, 0, math.Nextafter32(1, 2)} {
		other = f
		other.C[i] = a
		want(t, "other C", impl.SameFilter(f, other), false)
		want(t, "other C", impl.SameFilter(other, f), false)
	}
	for i, a := range []float32{-infinite, 0} {
		other = f
		other.S[i] = a
		want(t, "other S", impl.SameFilter(f, other), false)
		want(t, "other S", impl.SameFilter(other, f), false)
	}
	other = f
	f.S[0], other.S[0] = nan, otherNaN
	want(t, "another NaN in S", impl.SameFilter(f, other), true)
	f.S, other.S = [2]float32{1, 0}, [2]float32{1, minusZero}
	want(t, "0 and -0 in S", impl.SameFilter(f, other), false)
	want(t, "0 and -0", impl.SameFilter(impl.BlockDc(0), impl.BlockDc(minusZero)), false)
	want(t, "no filters", impl.SameFilter(impl.Filter{}, impl.Filter{}), true)
}

func TestP4StepsAreThoseOfTheTable(t *testing.T) {
	random := newRandom()
	noise := loudBlock(random)
	in := append(awkward(), noise[:]...)
	for _, f := range validFilters() {
		for _, x := range in {
			behind, made := stepOf(f, x)
			next, y, code := impl.StepFilter(f, x)
			want(t, "StepFilter", code, impl.OK)
			wantSample(t, "StepFilter", y, made)
			wantFilter(t, "StepFilter", next, behind)
			if !impl.ValidFilter(next) {
				t.Fatalf("behind %v of %v, %v is not valid", x, f, next)
			}
		}
	}
}

func TestP4StepsOfNoise(t *testing.T) {
	random := newRandom()
	for range 300 {
		n := loudBlock(random)
		for kind := int64(1); kind <= 5; kind++ {
			f := impl.Filter{Kind: kind}
			numbers, states := usedOf(kind)
			copy(f.C[:numbers], n[:])
			copy(f.S[:states], n[3:])
			for _, x := range n[5:] {
				behind, made := stepOf(f, x)
				next, y, _ := impl.StepFilter(f, x)
				wantSample(t, "StepFilter", y, made)
				wantFilter(t, "StepFilter", next, behind)
				f = behind
			}
		}
	}
}

func TestP4StatesAreFlushedWhenTheyAreKept(t *testing.T) {
	half := leastNormal / 2
	for _, c := range []struct {
		name string
		f    impl.Filter
		x, y float32
		s    [2]float32
	}{
		{"OnePole, what it makes is not flushed", impl.OnePole(0.5), leastNormal, half, [2]float32{}},
		{"OnePole, a subnormal state is heard once", impl.Filter{Kind: impl.FkOnePole, C: [3]float32{0, 1}, S: [2]float32{mostSub}}, 0, mostSub, [2]float32{}},
		{"OnePole, a least normal state stays", impl.Filter{Kind: impl.FkOnePole, C: [3]float32{0, 1}, S: [2]float32{leastNormal}}, 0, leastNormal, [2]float32{leastNormal}},
		{"OnePole, a state of -0", impl.OnePole(0.5), minusZero, 0, [2]float32{}},
		{"OnePole, -0 is heard once", impl.Filter{Kind: impl.FkOnePole, C: [3]float32{0.5, 0.5}, S: [2]float32{minusZero}}, minusZero, minusZero, [2]float32{}},
		{"OneZero, a subnormal sample", impl.OneZero(0), -mostSub, -mostSub, [2]float32{}},
		{"OneZero, a subnormal state", impl.Filter{Kind: impl.FkOneZero, C: [3]float32{0, 1}, S: [2]float32{half}}, 1, half, [2]float32{1}},
		{"Allpass, subnormal states", impl.Filter{Kind: impl.FkAllpass, C: [3]float32{-1}, S: [2]float32{half, half}}, 0, leastNormal, [2]float32{0, leastNormal}},
		{"Allpass, both flushed", impl.Filter{Kind: impl.FkAllpass, C: [3]float32{0}, S: [2]float32{mostSub, 1}}, half, mostSub, [2]float32{}},
		{"TwoPole, a state that moves", impl.Filter{Kind: impl.FkTwoPole, C: [3]float32{1, 0, -1}, S: [2]float32{mostSub, half}}, 1 - 1, half, [2]float32{}},
		{"TwoPole, -0 that moves", impl.Filter{Kind: impl.FkTwoPole, C: [3]float32{1, 0, 0}, S: [2]float32{minusZero, 1}}, 1, 1, [2]float32{1, 0}},
		{"TwoPole, a number that moves", impl.Filter{Kind: impl.FkTwoPole, C: [3]float32{1, 0, 0}, S: [2]float32{-leastNormal, 1}}, half, half, [2]float32{0, -leastNormal}},
		{"BlockDc, a subnormal sample", impl.BlockDc(0), mostSub, mostSub, [2]float32{}},
		{"BlockDc, subnormal states", impl.Filter{Kind: impl.FkBlock, C: [3]float32{1}, S: [2]float32{-half, half}}, 0, leastNormal, [2]float32{0, leastNormal}},
	} {
		next, y, code := impl.StepFilter(c.f, c.x)
		want(t, c.name, code, impl.OK)
		wantSample(t, c.name, y, c.y)
		wantFilter(t, c.name, next, impl.Filter{Kind: c.f.Kind, C: c.f.C, S: c.s})
	}
}

func TestP4StatesThatAreNotFiniteAreKeptAsZero(t *testing.T) {
	for _, x := range []float32{nan, infinite, -infinite} {
		for _, f := range []impl.Filter{impl.OnePole(0.5), impl.OneZero(0.5), allpassFor(0.5), impl.TwoPole(0.1, 0.5), impl.BlockDc(0.5)} {
			next, y, code := impl.StepFilter(f, x)
			want(t, "StepFilter", code, impl.OK)
			wantSample(t, "StepFilter", y, x)
			wantFilter(t, "StepFilter", next, f)
		}
	}
	loud := impl.Filter{Kind: impl.FkTwoPole, C: [3]float32{1, -2, 0}, S: [2]float32{greatest, 1}}
	next, y, _ := impl.StepFilter(loud, 0)
	wantSample(t, "too loud", y, infinite)
	wantSamples(t, "behind it", next.S[:], []float32{0, greatest})
	_, y, _ = impl.StepFilter(next, 0)
	wantSample(t, "then", y, 0)
}

func TestP4RunsAreManySteps(t *testing.T) {
	random := newRandom()
	blocks := []impl.Block{{}, filled(nan), filled(minusZero), filled(leastNormal), filled(greatest), loudBlock(random), anyBlock(random), {1}}
	for _, f := range validFilters() {
		for _, b := range blocks {
			stepped := f
			var made impl.Block
			for i, x := range b {
				stepped, made[i], _ = impl.StepFilter(stepped, x)
			}
			behind, out, code := impl.RunFilter(f, b)
			want(t, "RunFilter", code, impl.OK)
			wantBlock(t, "RunFilter", out, made)
			wantFilter(t, "RunFilter", behind, stepped)
		}
	}
}

func TestP4FiltersGoOnInBlocksOfAnyCut(t *testing.T) {
	random := newRandom()
	for _, s := range settledFilters() {
		b, c := loudBlock(random), loudBlock(random)
		f := s.filter
		f, first, _ := impl.RunFilter(f, b)
		f, second, _ := impl.RunFilter(f, c)
		all := append(first[:], second[:]...)
		in := append(b[:], c[:]...)
		for cut := range 17 {
			g := s.filter
			for i, x := range in[:cut] {
				var y float32
				g, y, _ = impl.StepFilter(g, x)
				wantSample(t, s.name, y, all[i])
			}
			g, out, _ := impl.RunFilter(g, impl.Block(in[cut:cut+16]))
			wantSamples(t, s.name, out[:], all[cut:cut+16])
			for i, x := range in[cut+16:] {
				var y float32
				g, y, _ = impl.StepFilter(g, x)
				wantSample(t, s.name, y, all[cut+16+i])
			}
			wantFilter(t, s.name, g, f)
		}
	}
}

func TestP4ChainsAreFiltersOneAfterTheOther(t *testing.T) {
	random := newRandom()
	valid := validFilters()
	for n := range impl.MaxChain + 1 {
		for range 200 {
			list := make([]impl.Filter, n)
			alone := make([]impl.Filter, n)
			b := pick(random.IntN(3) > 0, loudBlock(random), anyBlock(random))
			out := b
			for i := range list {
				list[i] = valid[random.IntN(len(valid))]
				alone[i], out, _ = impl.RunFilter(list[i], out)
			}
			behind, made, code := impl.RunChain(list, b)
			want(t, "RunChain", code, impl.OK)
			wantBlock(t, "RunChain", made, out)
			want(t, "filters", len(behind), n)
			for i := range behind {
				wantFilter(t, "RunChain", behind[i], alone[i])
			}
		}
	}
}

func TestP4ChainsPassOnWhatIsNotFlushed(t *testing.T) {
	through := impl.OneZero(0)
	louder := impl.Filter{Kind: impl.FkOneZero, C: [3]float32{4}}
	_, out, code := impl.RunChain([]impl.Filter{through, louder}, impl.Block{leastNormal / 4, minusZero, nan, infinite})
	want(t, "RunChain", code, impl.OK)
	wantBlock(t, "RunChain", out, impl.Block{leastNormal, 0, nan, infinite})
}

func TestP4EmptyChains(t *testing.T) {
	b := impl.Block{1, nan, minusZero, leastSample, infinite}
	for _, list := range [][]impl.Filter{nil, {}} {
		behind, out, code := impl.RunChain(list, b)
		want(t, "RunChain", code, impl.OK)
		want(t, "filters", len(behind), 0)
		wantBlock(t, "RunChain", out, b)
	}
}

func TestP4LongChains(t *testing.T) {
	for n := impl.MaxChain; n <= impl.MaxChain+2; n++ {
		list := make([]impl.Filter, n)
		for i := range list {
			list[i] = impl.OnePole(0.5)
		}
		wantChainCode(t, list, pick(n > impl.MaxChain, impl.ErrLimit, int64(impl.OK)))
		for i := range list {
			for _, f := range invalidFilters() {
				list[i] = f
				wantChainCode(t, list, impl.ErrInvalid)
			}
			list[i] = impl.OnePole(0.5)
		}
	}
}

func wantChainCode(t *testing.T, list []impl.Filter, expected int64) {
	t.Helper()
	behind, out, code := impl.RunChain(list, filled(1))
	want(t, "RunChain", code, expected)
	if code != impl.OK {
		want(t, "filters", len(behind), 0)
		wantBlock(t, "RunChain", out, impl.Block{})
	}
}

func TestP4FiltersThatAreNotValid(t *testing.T) {
	for _, f := range invalidFilters() {
		for _, x := range []float32{0, 1, nan} {
			next, y, code := impl.StepFilter(f, x)
			want(t, "StepFilter", code, impl.ErrInvalid)
			wantSample(t, "StepFilter", y, 0)
			wantFilter(t, "StepFilter", next, impl.Filter{})
		}
		next, out, code := impl.RunFilter(f, filled(1))
		want(t, "RunFilter", code, impl.ErrInvalid)
		wantBlock(t, "RunFilter", out, impl.Block{})
		wantFilter(t, "RunFilter", next, impl.Filter{})
		still, code := impl.IsStill(f)
		want(t, "IsStill", code, impl.ErrInvalid)
		want(t, "IsStill", still, false)
		for _, most := range []int64{-1, 0, 10, impl.MaxSettle + 1} {
			n, code := impl.StepsToStill(f, most)
			want(t, "StepsToStill", code, impl.ErrInvalid)
			want(t, "StepsToStill", n, 0)
		}
	}
}
