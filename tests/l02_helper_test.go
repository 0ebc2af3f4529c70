package tests

import (
	"math"
	"testing"

	"loop.example/g01173/impl"
)

func wantRing(t *testing.T, name string, got, want impl.Ring) {
	t.Helper()
	if got.At != want.At {
		t.Errorf("%s: got At %d, want %d", name, got.At, want.At)
	}
	wantSamples(t, name, got.Samples, want.Samples)
}

func wantFilter(t *testing.T, name string, got, want impl.Filter) {
	t.Helper()
	if got.Kind != want.Kind {
		t.Errorf("%s: got Kind %d, want %d", name, got.Kind, want.Kind)
	}
	wantSamples(t, name+", C", got.C[:], want.C[:])
	wantSamples(t, name+", S", got.S[:], want.S[:])
}

// numbered has the samples 1, 2 and so on, from the oldest one on.
func numbered(n, at int64) impl.Ring {
	r := impl.Ring{Samples: make([]float32, n), At: at}
	for i := range n {
		r.Samples[(at+i)%n] = float32(i + 1)
	}
	return r
}

func invalidRings() []impl.Ring {
	return []impl.Ring{
		{}, {At: 1}, {At: -1}, {Samples: []float32{}}, {Samples: make([]float32, 1025)}, {Samples: make([]float32, 1025), At: 5},
		{Samples: make([]float32, 2), At: -1}, {Samples: make([]float32, 2), At: 2}, {Samples: make([]float32, 2), At: math.MaxInt64}, {Samples: make([]float32, 2), At: math.MinInt64},
		{Samples: make([]float32, 1024), At: 1024}, {Samples: make([]float32, 1), At: 1},
	}
}

func allpassFor(fraction float32) impl.Filter {
	f, _ := impl.AllpassFor(fraction)
	return f
}

// usedOf tells how many numbers and states the table of the document mentions for a kind.
func usedOf(kind int64) (numbers, states int) {
	switch kind {
	case impl.FkOnePole, impl.FkOneZero:
		return 2, 1
	case impl.FkAllpass, impl.FkBlock:
		return 1, 2
	}
	return 3, 2
}

// invalidFilters has filters that break one rule each, beside good numbers.
func invalidFilters() []impl.Filter {
	var list []impl.Filter
	for _, kind := range []int64{0, -1, 6, 7, math.MinInt64, math.MaxInt64} {
		list = append(list, impl.Filter{Kind: kind})
	}
	endless := []float32{nan, otherNaN, infinite, -infinite}
	other := append(endless, minusZero, leastSample, -leastSample, leastNormal, 1, -1)
	for kind := int64(1); kind <= 5; kind++ {
		numbers, states := usedOf(kind)
		for i := range 3 {
			for _, a := range pick(i < numbers, endless, other) {
				f := impl.Filter{Kind: kind}
				f.C[i] = a
				list = append(list, f)
			}
		}
		for i := range 2 {
			for _, a := range pick(i < states, endless, other) {
				f := impl.Filter{Kind: kind}
				f.S[i] = a
				list = append(list, f)
			}
		}
	}
	return list
}

func pick[T any](first bool, a, b T) T {
	if first {
		return a
	}
	return b
}

// validFilters has filters of all kinds with all numbers that are finite.
func validFilters() []impl.Filter {
	finite := []float32{0, minusZero, leastSample, -leastSample, mostSub, -mostSub, leastNormal, -leastNormal, 0.3, -0.3, 1, -1, 1.9, greatest, -greatest}
	var list []impl.Filter
	for kind := int64(1); kind <= 5; kind++ {
		numbers, states := usedOf(kind)
		for i := range finite {
			for j := range finite {
				f := impl.Filter{Kind: kind}
				for k := range numbers {
					f.C[k] = finite[(i+4*k)%len(finite)]
				}
				for k := range states {
					f.S[k] = finite[(j+7*k)%len(finite)]
				}
				list = append(list, f)
			}
		}
	}
	return list
}

// sumOf, difOf and proOf have sums, differences and products rounded once: with 53 bits in
// between, the second rounding never changes the first one, and nothing is fused.
func sumOf(a, b float32) float32 { return float32(float64(a) + float64(b)) }
func difOf(a, b float32) float32 { return float32(float64(a) - float64(b)) }
func proOf(a, b float32) float32 { return float32(float64(a) * float64(b)) }

func keptOf(a float32) float32 {
	size := math.Abs(float64(a))
	if size >= math.Ldexp(1, -126) && size <= math.MaxFloat32 {
		return a
	}
	return 0
}

// stepOf is the table of the document, written down once more.
func stepOf(f impl.Filter, x float32) (impl.Filter, float32) {
	var y float32
	c, s := f.C, f.S
	switch f.Kind {
	case impl.FkOnePole:
		y = sumOf(proOf(c[0], x), proOf(c[1], s[0]))
		f.S[0] = keptOf(y)
	case impl.FkOneZero:
		y = sumOf(proOf(c[0], x), proOf(c[1], s[0]))
		f.S[0] = keptOf(x)
	case impl.FkAllpass:
		y = sumOf(proOf(c[0], difOf(x, s[1])), s[0])
		f.S[0], f.S[1] = keptOf(x), keptOf(y)
	case impl.FkTwoPole:
		y = difOf(difOf(proOf(c[0], x), proOf(c[1], s[0])), proOf(c[2], s[1]))
		f.S[0], f.S[1] = keptOf(y), keptOf(s[0])
	case impl.FkBlock:
		y = sumOf(difOf(x, s[0]), proOf(c[0], s[1]))
		f.S[0], f.S[1] = keptOf(x), keptOf(y)
	}
	return f, y
}
