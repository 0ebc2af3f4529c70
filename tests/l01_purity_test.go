package tests

import (
	"fmt"
	"math"
	"slices"
	"strings"
	"testing"

	"loop.example/g01173/impl"
)

// answersOf calls every function that takes samples and blocks, and writes down
// all bits that they return.
func answersOf(a, c float32, b, d impl.Block) string {
	var list []any
	sample := func(x float32) {
		if x != x {
			list = append(list, "NaN")
			return
		}
		list = append(list, math.Float32bits(x))
	}
	block := func(x impl.Block) {
		for _, y := range x {
			sample(y)
		}
	}
	list = append(list, impl.SameSample(a, c), impl.ToShort(a), impl.ToShorts(b), impl.SameBlock(b, d), impl.IsSilent(b), impl.BlockText(b))
	sample(impl.FlushSample(a))
	sample(impl.ClampSample(a, c))
	block(impl.FromShorts(impl.ToShorts(b)))
	block(impl.FlushBlock(b))
	block(impl.MixBlocks(b, d))
	block(impl.ScaleBlock(b, a))
	block(impl.RampBlock(b, a, c))
	sample(impl.PeakOf(b))
	sample(impl.EnergyOf(b))
	sample(impl.DotOf(b, d))
	sample(impl.SineOf(a))
	at, code := impl.TableAt(impl.SineTable(), a)
	sample(at)
	list = append(list, code)
	n, next := impl.NextNoise(math.Float32bits(a))
	sample(n)
	nb, seed := impl.NoiseBlock(math.Float32bits(a))
	block(nb)
	list = append(list, next, seed)
	return fmt.Sprint(list...)
}

func TestP1ReturnsTheSameForAllSamples(t *testing.T) {
	r := newRandom()
	blocks := []impl.Block{{}, filled(nan), filled(infinite), filled(-greatest), filled(leastSample), filled(minusZero), anyBlock(r), loudBlock(r)}
	for _, a := range awkward() {
		for i, c := range awkward() {
			b, d := blocks[i%len(blocks)], blocks[(i+3)%len(blocks)]
			first := answersOf(a, c, b, d)
			if second := answersOf(a, c, b, d); first != second {
				t.Fatalf("%v and %v: got %s, then %s", a, c, first, second)
			}
		}
	}
}

func TestP1ReturnsForAllTextsAndCounts(t *testing.T) {
	for _, text := range []string{"", " ", "\x00", "\xff", strings.Repeat(" ", 1000000), strings.Repeat("0", 1000000), strings.Repeat("00000000 ", 111111)} {
		b, code := impl.ReadBlock(text)
		want(t, "code", code, impl.ErrSyntax)
		wantBlock(t, "block", b, impl.Block{})
	}
	for _, count := range []int64{math.MinInt64, -1, 1, math.MaxInt64} {
		samples, code := impl.SamplesOf(nil, count)
		want(t, "code", code, impl.ErrRange)
		want(t, "samples", len(samples), 0)
	}
	for _, code := range []int64{math.MinInt64, -1, 9, math.MaxInt64} {
		want(t, "CodeName", impl.CodeName(code), "")
	}
	blocks, code := impl.BlocksOf(make([]float32, 1000000))
	want(t, "code", code, impl.ErrLimit)
	want(t, "blocks", len(blocks), 0)
}

func TestP1BlocksOfKeepsItsArgument(t *testing.T) {
	memory := make([]float32, 40)
	for i := range memory {
		memory[i] = float32(i)
	}
	before := slices.Clone(memory)
	blocks, code := impl.BlocksOf(memory[:17])
	want(t, "code", code, impl.OK)
	for i := range blocks {
		blocks[i] = filled(-1)
	}
	_ = append(blocks[:1], filled(-2))
	wantSamples(t, "memory", memory, before)
	again, _ := impl.BlocksOf(memory[:17])
	clear(memory)
	wantSample(t, "first", again[0][1], 1)
	wantSample(t, "last", again[1][0], 16)
	wantSample(t, "behind the last one", again[1][1], 0)
}

func TestP1SamplesOfKeepsItsArgument(t *testing.T) {
	memory := make([]impl.Block, 4)
	for i := range memory {
		memory[i] = filled(float32(i + 1))
	}
	before := slices.Clone(memory)
	samples, code := impl.SamplesOf(memory[:2], 20)
	want(t, "code", code, impl.OK)
	samples = samples[:cap(samples)]
	for i := range samples {
		samples[i] = -1
	}
	for i := range memory {
		wantBlock(t, "memory", memory[i], before[i])
	}
	again, _ := impl.SamplesOf(memory[:2], 20)
	clear(memory)
	wantSample(t, "first", again[0], 1)
	wantSample(t, "last", again[19], 2)
}

func TestP1NilAndEmptyAreEquivalent(t *testing.T) {
	for _, samples := range [][]float32{nil, {}} {
		blocks, code := impl.BlocksOf(samples)
		want(t, "BlocksOf", code, impl.OK)
		want(t, "blocks", len(blocks), 0)
	}
	for _, blocks := range [][]impl.Block{nil, {}} {
		samples, code := impl.SamplesOf(blocks, 0)
		want(t, "SamplesOf", code, impl.OK)
		want(t, "samples", len(samples), 0)
	}
}
