package tests

import (
	"math"
	"slices"
	"strings"
	"testing"

	"loop.example/g01173/impl"
)

func answersOfPipes(x, y impl.Pipe, a, c float32, n, m int64, breath []float32, b impl.Block) string {
	list := []any{impl.ReedAt(a, c, b[0]), impl.ValidPipe(x), impl.SamePipe(x, y), impl.PipeText(x)}
	k, code := impl.ScatterOf(a, c)
	list = append(list, k, code)
	made, code := impl.NewPipe([]int64{n, m}, []float32{c}, x.Open, a, b[0])
	list = append(list, made, code)
	made, code = impl.NewPipe([]int64{2}, y.Scatter, x.Open, a, c)
	list = append(list, made, code)
	made, code = impl.WithReed(x, a, c)
	list = append(list, made, code)
	length, code := impl.LengthOfPipe(x)
	list = append(list, length, code)
	made, e, code := impl.StepPipe(x, a)
	list = append(list, made, e, code)
	made, samples, code := impl.PlayPipe(x, breath)
	list = append(list, made, samples, code)
	made, block, code := impl.BlockOfPipe(x, b)
	list = append(list, made, block, code)
	p, code := impl.PressureAt(x, n, m)
	list = append(list, p, code)
	energy, code := impl.EnergyOfPipe(x)
	list = append(list, math.Float64bits(energy), code)
	made, code = impl.PulsePipe(x, n, m, a)
	list = append(list, made, code)
	made, code = impl.MutePipe(x)
	list = append(list, made, code)
	silent, code := impl.IsSilentPipe(x)
	list = append(list, silent, code)
	steps, code := impl.StepsToSilentPipe(x, n)
	list = append(list, steps, code)
	ramp, code := impl.BreathRamp(a, c, m)
	list = append(list, ramp, code)
	made, code = impl.ReadPipe(impl.PipeText(x))
	return writtenDown(append(list, made, code)...)
}

func TestP1ReturnsTheSameForAllPipes(t *testing.T) {
	r := newRandom()
	all := append(validPipes(), invalidPipes()...)
	kinds := append(awkward(), 0.1, 0.9, 3, 5.5)
	counts := []int64{math.MinInt64, -1, 0, 1, 2, 5, 40, impl.MaxSettle + 1, math.MaxInt64}
	breaths := [][]float32{nil, {}, {1}, {nan, 0.5, leastSample}, {infinite, -infinite, 0.1, minusZero}, make([]float32, 40)}
	blocks := []impl.Block{{}, filled(nan), anyBlock(r), loudBlock(r)}
	for i, x := range all {
		y := all[(i*7+1)%len(all)]
		before := writtenDown(x, y)
		for j := range 12 {
			k := i + 5*j
			a, c, n, m, breath, b := kinds[k%len(kinds)], kinds[(3*k+j)%len(kinds)], counts[(k+j)%len(counts)], counts[(i+j)%len(counts)], breaths[(k+2*j)%len(breaths)], blocks[k%len(blocks)]
			blown := writtenDown(breath)
			first := answersOfPipes(x, y, a, c, n, m, breath, b)
			want(t, "the second time", answersOfPipes(x, y, a, c, n, m, breath, b), first)
			want(t, "the breath", writtenDown(breath), blown)
		}
		want(t, "the arguments", writtenDown(x, y), before)
	}
}

// sparePipe has rings and numbers that lie in the middle of their memory, so
// that all of them have unused capacity.
type sparePipe struct {
	impl.Pipe
	samples []float32
	rings   []impl.Ring
}

func newSparePipe(at int64) sparePipe {
	s := sparePipe{samples: make([]float32, 40), rings: make([]impl.Ring, 12)}
	for i := range s.samples {
		s.samples[i] = float32(i + 1)
	}
	ring := func(from, n int64) impl.Ring {
		return impl.Ring{Samples: s.samples[from : from+n], At: at % n}
	}
	for i := range s.rings {
		s.rings[i] = ring(38, 1)
	}
	s.rings[1], s.rings[2] = ring(2, 3), ring(7, 2)
	s.rings[6], s.rings[7] = ring(12, 3), ring(17, 2)
	s.samples[22] = 0.5
	s.Pipe = impl.Pipe{Right: s.rings[1:3], Left: s.rings[6:8], Scatter: s.samples[22:23], End: impl.OnePole(0.3), Loss: 0.9, Rest: 0.75, Slope: -0.375}
	return s
}

// memory has all that lies around the pipe, too.
func (s sparePipe) memory() string {
	return writtenDown(s.samples, s.rings)
}

// pipeChangers return pipes that a pipe becomes.
func pipeChangers() []func(x impl.Pipe) impl.Pipe {
	return []func(x impl.Pipe) impl.Pipe{
		func(x impl.Pipe) impl.Pipe { y, _ := impl.WithReed(x, 0.4, 0.5); return y },
		func(x impl.Pipe) impl.Pipe { y, _, _ := impl.StepPipe(x, 0.4); return y },
		func(x impl.Pipe) impl.Pipe { y, _, _ := impl.PlayPipe(x, nil); return y },
		func(x impl.Pipe) impl.Pipe { y, _, _ := impl.PlayPipe(x, make([]float32, 10)); return y },
		func(x impl.Pipe) impl.Pipe { y, _, _ := impl.BlockOfPipe(x, filled(1)); return y },
		func(x impl.Pipe) impl.Pipe { y, _ := impl.PulsePipe(x, 1, 1, 0.4); return y },
		func(x impl.Pipe) impl.Pipe { y, _ := impl.MutePipe(x); return y },
		func(x impl.Pipe) impl.Pipe { y, _ := impl.ReadPipe(impl.PipeText(x)); return y },
		func(x impl.Pipe) impl.Pipe {
			y, _ := impl.NewPipe([]int64{3, 2}, x.Scatter, true, 0.3, 0.9)
			return y
		},
		func(x impl.Pipe) impl.Pipe {
			impl.StepsToSilentPipe(x, 100)
			impl.IsSilentPipe(x)
			impl.PressureAt(x, 1, 1)
			impl.EnergyOfPipe(x)
			impl.LengthOfPipe(x)
			impl.SamePipe(x, x)
			return newPipe([]int64{3, 2}, []float32{0.5}, true, 0.3, 0.9)
		},
	}
}

// partsOf has all lists of samples and numbers of a pipe.
func partsOf(x impl.Pipe) [][]float32 {
	list := [][]float32{x.Scatter}
	for _, r := range slices.Concat(x.Right, x.Left) {
		list = append(list, r.Samples)
	}
	return list
}

func TestP1PipesShareNoMemory(t *testing.T) {
	for i, change := range pipeChangers() {
		for at := range int64(6) {
			s := newSparePipe(at)
			before := s.memory()
			first, second := change(s.Pipe), change(s.Pipe)
			want(t, "valid", impl.ValidPipe(first), true)
			want(t, "the memory", s.memory(), before)
			kept := writtenDown(second)
			for _, list := range partsOf(first) {
				overwrite(list)
			}
			clear(first.Right[:cap(first.Right)])
			clear(first.Left[:cap(first.Left)])
			want(t, "the memory behind", s.memory(), before)
			overwrite(s.samples)
			clear(s.rings)
			if writtenDown(second) != kept {
				t.Errorf("change %d shares memory", i)
			}
		}
	}
}

func TestP1PartsOfPipesShareNoMemory(t *testing.T) {
	for i, change := range pipeChangers() {
		for k := range partsOf(change(newSparePipe(1).Pipe)) {
			x := change(newSparePipe(1).Pipe)
			parts := partsOf(x)
			before := writtenDown(slices.Concat(slices.Delete(slices.Clone(parts), k, k+1)...))
			overwrite(parts[k])
			if writtenDown(slices.Concat(slices.Delete(parts, k, k+1)...)) != before {
				t.Errorf("change %d: part %d is shared", i, k)
			}
		}
		x := change(newSparePipe(1).Pipe)
		before := writtenDown(x.Left)
		clear(x.Right[:cap(x.Right)])
		want(t, "Left", writtenDown(x.Left), before)
	}
}

func TestP1NewPipesAndBreathsAreNew(t *testing.T) {
	memory := []float32{91, 92, 0.25, 0.5, 93, 94}
	lengths := []int64{9, 2, 3, 1, 9}
	kept := writtenDown(memory, lengths)
	x := newPipe(lengths[1:4], memory[2:4], true, 0.5, 1)
	again := writtenDown(x)
	for _, list := range partsOf(newPipe(lengths[1:4], memory[2:4], true, 0.5, 1)) {
		overwrite(list)
	}
	want(t, "the arguments", writtenDown(memory, lengths), kept)
	want(t, "the pipe before", writtenDown(x), again)
	want(t, "the next pipe", writtenDown(newPipe(lengths[1:4], memory[2:4], true, 0.5, 1)), again)
	breath := memory[1:5]
	y, made, code := impl.PlayPipe(x, breath)
	want(t, "PlayPipe", code, impl.OK)
	behind, played := writtenDown(y), writtenDown(made)
	overwrite(made)
	want(t, "the breath", writtenDown(memory, lengths), kept)
	want(t, "the pipe", writtenDown(y), behind)
	_, made, _ = impl.PlayPipe(x, breath)
	overwrite(memory)
	want(t, "what it makes", writtenDown(made), played)
	want(t, "the pipe before", writtenDown(x), again)
	ramp, _ := impl.BreathRamp(0, 1, 8)
	overwrite(ramp)
	ramp, _ = impl.BreathRamp(0, 1, 4)
	wantSamples(t, "BreathRamp", ramp, []float32{0, 0.25, 0.5, 0.75})
}

func TestP1ReturnsForLongArgumentsOfChapter4(t *testing.T) {
	ring := impl.Ring{Samples: make([]float32, 1000000), At: 3}
	long := impl.Pipe{Right: []impl.Ring{ring}, Left: []impl.Ring{ring}, End: impl.OnePole(0)}
	rings := make([]impl.Ring, 400000)
	many := impl.Pipe{Right: rings, Left: rings, Scatter: make([]float32, 399999), End: impl.OnePole(0)}
	for _, x := range []impl.Pipe{long, many, {Right: rings}, {Left: rings}, {Scatter: make([]float32, 1000000)}} {
		want(t, "ValidPipe", impl.ValidPipe(x), false)
		want(t, "SamePipe", impl.SamePipe(x, copiedPipe(x)), true)
		want(t, "PipeText", impl.PipeText(x), "")
		wantNotBlown(t, x, []float32{1}, impl.ErrInvalid)
	}
	wantNotBlown(t, newPipe([]int64{3}, nil, false, 0, 1), make([]float32, 1000000), impl.ErrLimit)
	wantNoPipe(t, make([]int64, 1000000), nil, 0, 1)
	wantNoPipe(t, slices.Repeat([]int64{1}, 500000), make([]float32, 499999), 0, 1)
	wantNoPipe(t, []int64{1, 1}, make([]float32, 1000000), 0, 1)
	for _, text := range []string{
		strings.Repeat("\n", 1000000), strings.Repeat(" ", 1000000), strings.Repeat("0", 1000000), strings.Repeat(" \n", 4) + strings.Repeat(" ", 900000), "\xff", "\x00",
		strings.Replace(textOfPipe, "3f000000 80000000", strings.Repeat("3f000000 ", 110000), 1), strings.Replace(textOfPipe, "3f800000 80000000", strings.Repeat("3f800000 ", 110000), 1),
		strings.Replace(textOfPipe, "\n2 1 ", "\n2 "+strings.Repeat("1", 900000)+" ", 1), strings.Replace(textOfPipe, "\n2 1 ", "\n"+strings.Repeat("2", 900000)+" 1 ", 1),
	} {
		wantNoReadPipe(t, text)
	}
}

func TestP1NilAndEmptyListsAreEquivalentForPipes(t *testing.T) {
	first, one := impl.NewPipe([]int64{2}, nil, true, 0.5, 1)
	second, two := impl.NewPipe([]int64{2}, []float32{}, true, 0.5, 1)
	want(t, "NewPipe", one, two)
	first.Scatter, second.Scatter = nil, []float32{}
	want(t, "SamePipe", impl.SamePipe(first, second), true)
	want(t, "ValidPipe", impl.ValidPipe(first) && impl.ValidPipe(second), true)
	want(t, "answers", answersOfPipes(first, second, 0.5, 0.5, 0, 1, nil, filled(1)), answersOfPipes(second, first, 0.5, 0.5, 0, 1, []float32{}, filled(1)))
	none, empty := impl.Pipe{}, impl.Pipe{Right: []impl.Ring{}, Left: []impl.Ring{}, Scatter: []float32{}}
	want(t, "SamePipe", impl.SamePipe(none, empty), true)
	want(t, "SamePipe", impl.SamePipe(empty, none), true)
	want(t, "ValidPipe", impl.ValidPipe(empty), false)
}
