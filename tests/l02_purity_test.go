package tests

import (
	"fmt"
	"math"
	"slices"
	"strconv"
	"strings"
	"testing"

	"loop.example/g01173/impl"
)

// writtenDown has the bits of all samples, with one text for each NaN.
func writtenDown(list ...any) string {
	var out []any
	samples := func(list []float32) {
		for _, a := range list {
			out = append(out, pick(a == a, math.Float32bits(a), 0x7fc00000))
		}
	}
	for _, x := range list {
		switch x := x.(type) {
		case float32:
			samples([]float32{x})
		case []float32:
			samples(x)
		case impl.Block:
			samples(x[:])
		case [4]float32:
			samples(x[:])
		case impl.Ring:
			samples(x.Samples)
			out = append(out, x.At)
		case impl.Filter:
			out = append(out, x.Kind)
			samples(x.C[:])
			samples(x.S[:])
		case []impl.Filter:
			for _, f := range x {
				out = append(out, writtenDown(f))
			}
		case []impl.Ring:
			for _, r := range x {
				out = append(out, writtenDown(r))
			}
		case impl.Table:
			samples(x[:])
		case impl.Bow:
			out = append(out, writtenDown(x.Neck, x.Bridge, x.Damp, x.Slope, x.Loss))
		case impl.Jet:
			out = append(out, writtenDown(x.Throat, x.Bore, x.Low, x.Dc, x.Near, x.Far))
		case impl.Comb:
			out = append(out, writtenDown(x.Ring, x.Gain))
		case []impl.Tap:
			for _, y := range x {
				out = append(out, y.Back, writtenDown(y.Gain))
			}
		case impl.Room:
			out = append(out, writtenDown(x.Early, x.Taps, x.Combs[0], x.Combs[1], x.Loops[:], x.Damps[:], x.Gains[:], x.Dry, x.Wet))
		case impl.Tuning:
			out = append(out, writtenDown(x.Base, x.Octave, x.Degrees))
		case impl.Instrument:
			out = append(out, strconv.Quote(x.Name), x.Kind)
			samples([]float32{x.A, x.B, x.C})
		case []impl.Instrument:
			for _, y := range x {
				out = append(out, writtenDown(y))
			}
		case impl.Event:
			out = append(out, ";", x.At, x.Kind, x.Note, x.Instrument, x.Key)
			samples([]float32{x.Force})
		case []impl.Event:
			for _, y := range x {
				out = append(out, writtenDown(y))
			}
		case impl.Score:
			samples([]float32{x.Rate})
			out = append(out, " ", writtenDown(x.Tuning), " ", writtenDown(x.Instruments), " ", writtenDown(x.Events))
		case impl.Voice:
			out = append(out, ";", x.Note, x.Instrument, x.Born, x.Gone, writtenDown(x.Drive, x.String, x.Pipe, x.Bow))
		case []impl.Voice:
			for _, y := range x {
				out = append(out, writtenDown(y))
			}
		case impl.Player:
			out = append(out, writtenDown(x.Score, x.Voices), ";", x.Now, x.Next, x.Skipped)
		case []impl.Block:
			for _, y := range x {
				out = append(out, ";", writtenDown(y))
			}
		case []impl.Bench:
			for _, y := range x {
				out = append(out, ";", y.Busy, y.Index, strconv.Quote(y.State))
			}
		case impl.Cargo:
			out = append(out, ";", x.Back, x.Worker, x.Index, strconv.Quote(x.State), writtenDown(x.Samples), x.Check)
		case []impl.Cargo:
			for _, y := range x {
				out = append(out, writtenDown(y))
			}
		case impl.Hall:
			out = append(out, writtenDown(x.Done), strconv.Quote(x.State), x.Synced, strconv.Quote(x.Kept), writtenDown(x.Benches, x.Wire))
		case impl.Stage:
			out = append(out, writtenDown(x.Score), ";", x.Voices, x.Blocks, x.Workers)
		case impl.Pipe:
			out = append(out, writtenDown(x.Right, x.Left, x.Scatter, x.End, x.Open, x.Loss, x.Rest, x.Slope))
		case impl.String:
			out = append(out, writtenDown(x.Loop, x.Tune, x.Damp, x.Loss))
		case []impl.String:
			for _, y := range x {
				out = append(out, writtenDown(y))
			}
		default:
			out = append(out, x)
		}
	}
	return fmt.Sprint(out...)
}

func answersOfRings(r, s impl.Ring, a float32, k int64) string {
	list := []any{impl.ValidRing(r), impl.SameRing(r, s)}
	made, code := impl.NewRing(k)
	list = append(list, made, code)
	pushed, oldest, code := impl.PushSample(r, a)
	list = append(list, pushed, oldest, code)
	back, code := impl.ReadBack(r, k)
	list = append(list, back, code)
	between, code := impl.ReadBetween(r, a)
	list = append(list, between, code)
	turned, code := impl.TurnRing(r)
	return writtenDown(append(list, turned, code)...)
}

func answersOfFilters(f, g impl.Filter, x float32, b impl.Block, most int64) string {
	list := []any{impl.OnePole(x), impl.OneZero(x), impl.BlockDc(x), impl.TwoPole(x, b[0]), impl.ValidFilter(f), impl.SameFilter(f, g), impl.FilterText(f)}
	made, code := impl.AllpassFor(x)
	list = append(list, made, code)
	behind, y, code := impl.StepFilter(f, x)
	list = append(list, behind, y, code)
	behind, out, code := impl.RunFilter(f, b)
	list = append(list, behind, out, code)
	chain, out, code := impl.RunChain([]impl.Filter{f, g}, b)
	list = append(list, chain, out, code)
	still, code := impl.IsStill(f)
	list = append(list, still, code)
	n, code := impl.StepsToStill(f, most)
	list = append(list, n, code)
	read, code := impl.ReadFilter(impl.FilterText(f))
	return writtenDown(append(list, read, code)...)
}

func TestP1ReturnsTheSameForAllRings(t *testing.T) {
	rings := append(invalidRings(), numbered(1, 0), numbered(3, 2), numbered(1024, 1023), impl.Ring{Samples: awkward(), At: 4})
	counts := []int64{math.MinInt64, -1, 0, 1, 2, 3, 1024, 1025, math.MaxInt64}
	for i, r := range rings {
		s := rings[(i+1)%len(rings)]
		before := writtenDown(r, s)
		for _, a := range append(awkward(), 1.5, 2, 1024, 1025) {
			for _, k := range counts {
				first := answersOfRings(r, s, a, k)
				want(t, "the second time", answersOfRings(r, s, a, k), first)
			}
		}
		want(t, "the arguments", writtenDown(r, s), before)
	}
}

func TestP1ReturnsTheSameForAllFilters(t *testing.T) {
	r := newRandom()
	filters := append(invalidFilters(), validFilters()...)
	kinds := awkward()
	blocks := []impl.Block{{}, filled(nan), filled(infinite), anyBlock(r), loudBlock(r)}
	counts := []int64{math.MinInt64, -1, 0, 1, 100, impl.MaxSettle + 1, math.MaxInt64}
	for i, f := range filters {
		g := filters[(i*7+3)%len(filters)]
		x, b, most := kinds[i%len(kinds)], blocks[i%len(blocks)], counts[i%len(counts)]
		first := answersOfFilters(f, g, x, b, most)
		want(t, "the second time", answersOfFilters(f, g, x, b, most), first)
	}
}

// spareRing lies in the middle of its memory, so that it has unused capacity.
func spareRing(at int64) (impl.Ring, []float32) {
	memory := []float32{91, 92, 1, 2, 3, 93, 94, 95, 96}
	return impl.Ring{Samples: memory[2:5], At: at}, memory
}

func TestP1RingsShareNoMemory(t *testing.T) {
	for at := range int64(3) {
		r, memory := spareRing(at)
		before := slices.Clone(memory)
		pushed, _, _ := impl.PushSample(r, 7)
		again, _, _ := impl.PushSample(r, 7)
		turned, _ := impl.TurnRing(r)
		turnedAgain, _ := impl.TurnRing(r)
		wantSamples(t, "the memory", memory, before)
		kept := []string{writtenDown(again), writtenDown(turnedAgain)}
		overwrite(pushed.Samples)
		overwrite(turned.Samples)
		wantSamples(t, "the memory behind", memory, before)
		overwrite(memory)
		want(t, "PushSample", writtenDown(again), kept[0])
		want(t, "TurnRing", writtenDown(turnedAgain), kept[1])
	}
}

// overwrite also changes the unused capacity.
func overwrite(samples []float32) {
	samples = samples[:cap(samples)]
	for i := range samples {
		samples[i] = -77
	}
}

func TestP1NewRingsShareNoMemory(t *testing.T) {
	first, _ := impl.NewRing(4)
	overwrite(first.Samples)
	second, _ := impl.NewRing(4)
	wantSamples(t, "NewRing", second.Samples, make([]float32, 4))
}

func TestP1ChainsShareNoMemory(t *testing.T) {
	memory := make([]impl.Filter, 8)
	for i := range memory {
		memory[i] = behindOne(impl.OnePole(0.5))
	}
	before := writtenDown(memory)
	list := memory[1:4]
	behind, _, code := impl.RunChain(list, filled(1))
	want(t, "RunChain", code, impl.OK)
	again, _, _ := impl.RunChain(list, filled(1))
	kept := writtenDown(again)
	want(t, "the memory", writtenDown(memory), before)
	clear(behind[:cap(behind)])
	want(t, "the memory behind", writtenDown(memory), before)
	clear(memory)
	want(t, "RunChain", writtenDown(again), kept)
	empty, _, _ := impl.RunChain(memory[:0], filled(1))
	_ = append(empty, impl.OnePole(1))
	want(t, "the first place", impl.SameFilter(memory[0], impl.Filter{}), true)
}

func TestP1ReturnsForLongArgumentsOfChapter2(t *testing.T) {
	long := impl.Ring{Samples: make([]float32, 1000000), At: 3}
	want(t, "ValidRing", impl.ValidRing(long), false)
	want(t, "SameRing", impl.SameRing(long, impl.Ring{Samples: make([]float32, 1000000), At: 3}), true)
	_, _, code := impl.PushSample(long, 1)
	want(t, "PushSample", code, impl.ErrInvalid)
	_, code = impl.TurnRing(long)
	want(t, "TurnRing", code, impl.ErrInvalid)
	list := make([]impl.Filter, 150000)
	for i := range list {
		list[i] = impl.OnePole(0.5)
	}
	wantChainCode(t, list, impl.ErrLimit)
	list[len(list)-1].Kind = 0
	wantChainCode(t, list, impl.ErrInvalid)
	for _, text := range []string{strings.Repeat(" ", 1000000), strings.Repeat("0", 1000000), "filter " + strings.Repeat("1", 999990), "\xff", "\x00", "filter 1" + strings.Repeat(" 00000000", 100000)} {
		wantNoFilter(t, text)
	}
}

func TestP1NilAndEmptyRingsAreEquivalent(t *testing.T) {
	none, empty := impl.Ring{}, impl.Ring{Samples: []float32{}}
	want(t, "SameRing", impl.SameRing(none, empty), true)
	want(t, "SameRing", impl.SameRing(empty, none), true)
	want(t, "answers", answersOfRings(none, none, 1, 1), answersOfRings(empty, empty, 1, 1))
}
