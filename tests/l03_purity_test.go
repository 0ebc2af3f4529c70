package tests

import (
	"math"
	"slices"
	"strings"
	"testing"

	"loop.example/g01173/impl"
)

func answersOfStrings(x, y impl.String, a, c float32, n int64, hammer []float32, b impl.Block) string {
	list := []any{impl.ValidString(x), impl.SameString(x, y), impl.StringText(x)}
	made, code := impl.NewString(a, c, b[0])
	list = append(list, made, code)
	made, code = impl.PluckString(x, a, c)
	list = append(list, made, code)
	made, code = impl.StrikeString(x, a, hammer)
	list = append(list, made, code)
	made, seed, code := impl.NoiseString(x, a, uint32(n))
	list = append(list, made, seed, code)
	made, out, code := impl.StepString(x, a)
	list = append(list, made, out, code)
	made, samples, code := impl.PlayString(x, n)
	list = append(list, made, samples, code)
	made, block, code := impl.BlockOfString(x, b)
	list = append(list, made, block, code)
	made, code = impl.MuteString(x)
	list = append(list, made, code)
	silent, code := impl.IsSilentString(x)
	list = append(list, silent, code)
	steps, code := impl.StepsToSilence(x, n)
	list = append(list, steps, code)
	period, code := impl.PeriodOf(x)
	list = append(list, period, code)
	behind, samples, code := impl.StepBridge([]impl.String{x, y}, a, hammer)
	list = append(list, behind, samples, code)
	made, code = impl.ReadString(impl.StringText(x))
	return writtenDown(append(list, made, code)...)
}

func TestP1ReturnsTheSameForAllStrings(t *testing.T) {
	r := newRandom()
	all := append(validStrings(), invalidStrings()...)
	kinds := append(awkward(), 0.1, 0.9, 3, 5.5)
	counts := []int64{math.MinInt64, -1, 0, 1, 5, 40, impl.MaxPlay, impl.MaxSettle + 1, math.MaxInt64}
	hammers := append(hammers(), []float32{nan, 1}, []float32{1, -infinite}, []float32{1, 2})
	blocks := []impl.Block{{}, filled(nan), anyBlock(r), loudBlock(r)}
	for i, x := range all {
		y := all[(i*7+1)%len(all)]
		before := writtenDown(x, y)
		for j := range 12 {
			k := i + 5*j
			a, c, n, hammer, b := kinds[k%len(kinds)], kinds[(3*k+j)%len(kinds)], counts[(k+j)%len(counts)], hammers[(k+2*j)%len(hammers)], blocks[k%len(blocks)]
			struck := writtenDown(hammer)
			first := answersOfStrings(x, y, a, c, n, hammer, b)
			want(t, "the second time", answersOfStrings(x, y, a, c, n, hammer, b), first)
			want(t, "the hammer", writtenDown(hammer), struck)
		}
		want(t, "the arguments", writtenDown(x, y), before)
	}
}

// changers return strings that a string becomes.
func changers() []func(x impl.String) impl.String {
	return []func(x impl.String) impl.String{
		func(x impl.String) impl.String { return plucked(x, 0.4, 0.5) },
		func(x impl.String) impl.String { y, _ := impl.StrikeString(x, 0.4, []float32{1, 2}); return y },
		func(x impl.String) impl.String { y, _ := impl.StrikeString(x, 0.4, nil); return y },
		func(x impl.String) impl.String { y, _, _ := impl.NoiseString(x, 0.4, 3); return y },
		func(x impl.String) impl.String { y, _, _ := impl.StepString(x, 0.4); return y },
		func(x impl.String) impl.String { y, _, _ := impl.PlayString(x, 0); return y },
		func(x impl.String) impl.String { y, _, _ := impl.PlayString(x, 10); return y },
		func(x impl.String) impl.String { y, _, _ := impl.BlockOfString(x, filled(1)); return y },
		func(x impl.String) impl.String { y, _ := impl.MuteString(x); return y },
		func(x impl.String) impl.String {
			y, _, _ := impl.StepBridge([]impl.String{x}, 0.4, []float32{1})
			return y[0]
		},
		func(x impl.String) impl.String {
			impl.StepsToSilence(x, 100)
			impl.IsSilentString(x)
			return newString(3, 0, 1)
		},
		func(x impl.String) impl.String { y, _ := impl.ReadString(impl.StringText(x)); return y },
	}
}

func TestP1StringsShareNoMemory(t *testing.T) {
	for i, change := range changers() {
		for at := range int64(3) {
			r, memory := spareRing(at)
			x := newString(4.5, 0.1, 0.9)
			x.Loop = r
			before := slices.Clone(memory)
			first, second := change(x), change(x)
			wantSamples(t, "the memory", memory, before)
			kept := writtenDown(second)
			overwrite(first.Loop.Samples)
			wantSamples(t, "the memory behind", memory, before)
			overwrite(memory)
			if writtenDown(second) != kept {
				t.Errorf("change %d shares memory", i)
			}
		}
	}
}

func TestP1HammersAreKept(t *testing.T) {
	memory := []float32{91, 92, 1, 2, 3, 93, 94}
	before := slices.Clone(memory)
	x := newString(8, 0, 1)
	y, code := impl.StrikeString(x, 0.3, memory[2:5])
	want(t, "StrikeString", code, impl.OK)
	wantSamples(t, "the hammer", memory, before)
	kept := writtenDown(y)
	overwrite(memory)
	want(t, "StrikeString", writtenDown(y), kept)
}

func TestP1BridgesShareNoMemory(t *testing.T) {
	r, memory := spareRing(1)
	x := newString(4.5, 0.1, 0.9)
	x.Loop = r
	y := newString(5, 0, 1)
	list := []impl.String{y, x, x, x, y, y}
	in := []float32{91, 1, 2, 3, 92}
	kept := []string{writtenDown(memory), writtenDown(list), writtenDown(in)}
	wantKept := func() {
		t.Helper()
		want(t, "the memory", writtenDown(memory), kept[0])
		want(t, "the strings", writtenDown(list), kept[1])
		want(t, "the samples", writtenDown(in), kept[2])
	}
	behind, made, code := impl.StepBridge(list[1:4], 0.5, in[1:4])
	want(t, "StepBridge", code, impl.OK)
	again, madeAgain, _ := impl.StepBridge(list[1:4], 0.5, in[1:4])
	wantKept()
	second := writtenDown(behind[1], behind[2], made)
	overwrite(behind[0].Loop.Samples)
	want(t, "the strings beside it", writtenDown(behind[1], behind[2], made), second)
	first := writtenDown(again, madeAgain)
	for _, x := range behind {
		overwrite(x.Loop.Samples)
	}
	clear(behind[:cap(behind)])
	overwrite(made)
	wantKept()
	overwrite(memory)
	overwrite(in)
	clear(list)
	want(t, "the second time", writtenDown(again, madeAgain), first)
}

func TestP1PlayedSamplesAreNew(t *testing.T) {
	x := plucked(newString(4.5, 0.1, 0.9), 0.5, 1)
	y, samples, _ := impl.PlayString(x, 20)
	kept := writtenDown(x, y)
	overwrite(samples)
	want(t, "the strings", writtenDown(x, y), kept)
	z := newString(4.5, 0.1, 0.9)
	overwrite(z.Loop.Samples)
	wantSamples(t, "NewString", newString(4.5, 0.1, 0.9).Loop.Samples, make([]float32, 4))
}

func TestP1ReturnsForLongArgumentsOfChapter3(t *testing.T) {
	long := withRing(newString(4.5, 0, 1), 3, make([]float32, 1000000)...)
	want(t, "ValidString", impl.ValidString(long), false)
	want(t, "SameString", impl.SameString(long, withRing(long, 3, make([]float32, 1000000)...)), true)
	wantNotPlayed(t, long, 1, impl.ErrInvalid)
	x := newString(4.5, 0, 1)
	y, code := impl.StrikeString(x, 0.5, make([]float32, 1000000))
	want(t, "StrikeString", code, impl.OK)
	wantString(t, "StrikeString", y, x)
	wantNoStrike(t, x, 0.5, append(make([]float32, 999999), nan), impl.ErrRange)
	list := make([]impl.String, 60000)
	for i := range list {
		list[i] = x
	}
	wantBridgeCode(t, list, 1, make([]float32, len(list)), impl.ErrRange)
	list[len(list)-1].Loss = nan
	wantBridgeCode(t, list, 1, make([]float32, len(list)), impl.ErrInvalid)
	for _, text := range []string{
		strings.Repeat("\n", 1000000), strings.Repeat(" ", 1000000), strings.Repeat("0", 1000000), "string 3f800000 2 0\n" + strings.Repeat(" ", 999000), "\xff", "\x00",
		strings.Replace(textOfString, "3f800000 7fc00000", strings.Repeat("3f800000 ", 110000), 1), strings.Replace(textOfString, " 1\n", " "+strings.Repeat("1", 900000)+"\n", 1),
	} {
		wantNoReadString(t, text)
	}
}

func TestP1NilAndEmptyListsAreEquivalentForStrings(t *testing.T) {
	x := plucked(newString(4.5, 0, 1), 0.5, 1)
	first, one := impl.StrikeString(x, 0.5, nil)
	second, two := impl.StrikeString(x, 0.5, []float32{})
	want(t, "StrikeString", one, two)
	wantString(t, "StrikeString", first, second)
	wantBridgeCode(t, []impl.String{}, 0, []float32{}, impl.ErrRange)
	wantBridgeCode(t, []impl.String{}, 0, nil, impl.ErrRange)
	none, empty := withRing(x, 0), x
	empty.Loop = impl.Ring{Samples: []float32{}}
	want(t, "SameString", impl.SameString(none, empty), true)
	want(t, "ValidString", impl.ValidString(empty), false)
}
