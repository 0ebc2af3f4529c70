package tests

import (
	"math"
	"testing"

	"loop.example/g01173/impl"
)

func TestP5StillFilters(t *testing.T) {
	for _, s := range settledFilters() {
		still, code := impl.IsStill(s.filter)
		want(t, s.name, code, impl.OK)
		want(t, s.name, still, true)
	}
	for _, c := range []struct {
		s     [2]float32
		still bool
	}{
		{[2]float32{}, true}, {[2]float32{minusZero, 0}, true}, {[2]float32{0, minusZero}, true}, {[2]float32{minusZero, minusZero}, true},
		{[2]float32{leastSample, 0}, false}, {[2]float32{0, -leastSample}, false}, {[2]float32{1, 0}, false}, {[2]float32{0, 1}, false}, {[2]float32{1, -1}, false},
	} {
		for _, kind := range []int64{impl.FkAllpass, impl.FkTwoPole, impl.FkBlock} {
			still, code := impl.IsStill(impl.Filter{Kind: kind, S: c.s})
			want(t, "IsStill", code, impl.OK)
			want(t, "IsStill", still, c.still)
			wantStill(t, "StepsToStill", impl.Filter{Kind: kind, S: c.s}, 0, pick(c.still, int64(impl.OK), impl.ErrBudget), 0)
		}
	}
}

func wantStill(t *testing.T, name string, f impl.Filter, most, code, steps int64) {
	t.Helper()
	n, got := impl.StepsToStill(f, most)
	want(t, name, got, code)
	want(t, name, n, steps)
}

func behindOne(f impl.Filter) impl.Filter {
	next, _, _ := impl.StepFilter(f, 1)
	return next
}

func TestP5FiltersComeToBeStill(t *testing.T) {
	// The numbers of steps are calculated apart from the program.
	for _, c := range []struct {
		f     impl.Filter
		steps int64
	}{
		{impl.OnePole(0.5), 126}, {impl.OnePole(0.9), 808}, {impl.OnePole(0.99), 8232}, {impl.OnePole(0.999), 80390},
		{impl.OneZero(0.3), 1}, {impl.OneZero(0), 1}, {impl.OnePole(0), 1},
		{allpassFor(0), 1}, {allpassFor(0.25), 172}, {allpassFor(0.7), 52}, {allpassFor(1), 2}, {allpassFor(1.5), 56}, {allpassFor(2), 81},
		{impl.TwoPole(0.25, 0.5), 126}, {impl.TwoPole(0.1, 0.95), 1645}, {impl.TwoPole(0.01, 0.99), 8299}, {impl.TwoPole(0.3, 0.999), 80392},
		{impl.BlockDc(0.5), 127}, {impl.BlockDc(0.995), 16368}, {impl.BlockDc(0.999), 80391},
	} {
		f := behindOne(c.f)
		wantStill(t, "StepsToStill", f, impl.MaxSettle, impl.OK, c.steps)
		wantStill(t, "with just as many", f, c.steps, impl.OK, c.steps)
		wantStill(t, "with one less", f, c.steps-1, impl.ErrBudget, 0)
	}
}

func TestP5StepsToStillAreTheLeast(t *testing.T) {
	for _, f := range validFilters() {
		n, code := impl.StepsToStill(f, 50)
		for range n {
			still, _ := impl.IsStill(f)
			want(t, "still before", still, false)
			f, _, _ = impl.StepFilter(f, 0)
		}
		if code == impl.ErrBudget {
			want(t, "with an error", n, 0)
			for range 51 {
				still, _ := impl.IsStill(f)
				want(t, "still within the most", still, false)
				f, _, _ = impl.StepFilter(f, 0)
			}
			continue
		}
		want(t, "StepsToStill", code, impl.OK)
		still, _ := impl.IsStill(f)
		want(t, "still behind", still, true)
	}
}

func TestP5StillFiltersStayStill(t *testing.T) {
	for _, f := range validFilters() {
		f.S = [2]float32{}
		behind, out, code := impl.RunFilter(f, impl.Block{})
		want(t, "RunFilter", code, impl.OK)
		want(t, "IsSilent", impl.IsSilent(out), true)
		wantFilter(t, "RunFilter", behind, f)
	}
}

func TestP5FiltersThatGoOnForever(t *testing.T) {
	for _, f := range []impl.Filter{
		{Kind: impl.FkOnePole, C: [3]float32{0, 1}, S: [2]float32{1}},
		{Kind: impl.FkOnePole, C: [3]float32{0, -1}, S: [2]float32{leastNormal}},
		{Kind: impl.FkBlock, C: [3]float32{1}, S: [2]float32{0, 1}},
		{Kind: impl.FkTwoPole, C: [3]float32{0, 0, 1}, S: [2]float32{0, 1}},
		{Kind: impl.FkAllpass, C: [3]float32{1}, S: [2]float32{0, 1}},
	} {
		for _, most := range []int64{0, 1, 1000, impl.MaxSettle} {
			wantStill(t, "StepsToStill", f, most, impl.ErrBudget, 0)
		}
	}
}

func TestP5FiltersThatGrowAreStillBehindTheGreatest(t *testing.T) {
	f := impl.Filter{Kind: impl.FkOnePole, C: [3]float32{0, 2}, S: [2]float32{1}}
	wantStill(t, "StepsToStill", f, impl.MaxSettle, impl.OK, 128)
}

func TestP5SubnormalStatesAreStillBehindOneStep(t *testing.T) {
	for _, f := range []impl.Filter{
		{Kind: impl.FkOnePole, C: [3]float32{0, 1}, S: [2]float32{mostSub}},
		{Kind: impl.FkTwoPole, C: [3]float32{1, 0, 0}, S: [2]float32{mostSub, 0}},
		{Kind: impl.FkTwoPole, C: [3]float32{1, -1, 0}, S: [2]float32{mostSub, mostSub}},
		{Kind: impl.FkBlock, C: [3]float32{1}, S: [2]float32{0, mostSub}},
	} {
		wantStill(t, "StepsToStill", f, 1, impl.OK, 1)
	}
}

func TestP5BoundsOfSteps(t *testing.T) {
	for _, f := range []impl.Filter{impl.OnePole(0.5), behindOne(impl.OnePole(0.5)), {Kind: impl.FkOnePole, C: [3]float32{0, 1}, S: [2]float32{1}}} {
		for _, most := range []int64{-1, impl.MaxSettle + 1, math.MinInt64, math.MaxInt64} {
			wantStill(t, "StepsToStill", f, most, impl.ErrRange, 0)
		}
	}
	for _, most := range []int64{0, 1, impl.MaxSettle} {
		wantStill(t, "a still one", impl.OnePole(0.5), most, impl.OK, 0)
	}
}

func TestP5StillJustBehindMaxSettle(t *testing.T) {
	f := impl.Filter{Kind: impl.FkOnePole, C: [3]float32{0, 0.999}, S: [2]float32{math.Float32frombits(0x48a206fb)}}
	wantStill(t, "one step too many", f, impl.MaxSettle, impl.ErrBudget, 0)
	f, _, _ = impl.StepFilter(f, 0)
	wantSample(t, "behind one step", f.S[0], math.Float32frombits(0x48a1dd81))
	wantStill(t, "just MaxSettle", f, impl.MaxSettle, impl.OK, impl.MaxSettle)
	wantStill(t, "one less", f, impl.MaxSettle-1, impl.ErrBudget, 0)
}
