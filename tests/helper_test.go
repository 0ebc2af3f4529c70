package tests

import (
	"math"
	"math/rand/v2"
	"testing"

	"loop.example/g01173/impl"
)

var (
	nan          = float32(math.NaN())
	infinite     = float32(math.Inf(1))
	minusZero    = float32(math.Copysign(0, -1))
	leastSample  = math.Float32frombits(1)
	mostSub      = math.Float32frombits(0x007fffff)
	leastNormal  = math.Float32frombits(0x00800000)
	greatest     = float32(math.MaxFloat32)
	otherNaN     = math.Float32frombits(0xffc00001)
	noiseOfTests = uint64(2026)
)

// awkward has samples of all kinds, those at the borders of kinds above all.
func awkward() []float32 {
	list := []float32{0, leastSample, mostSub, leastNormal, 0.25, 0.5, 1, 32767.5, greatest, infinite}
	for _, a := range list[:len(list):len(list)] {
		list = append(list, -a)
	}
	return append(list, minusZero, nan, otherNaN)
}

// anyBlock has samples of any bits, so also some that are NaN or subnormal.
func anyBlock(r *rand.Rand) impl.Block {
	var b impl.Block
	for i := range b {
		b[i] = math.Float32frombits(r.Uint32())
	}
	return b
}

// loudBlock has samples between -1 and 1, with all their bits in use.
func loudBlock(r *rand.Rand) impl.Block {
	var b impl.Block
	for i := range b {
		b[i] = float32(2*r.Float64() - 1)
	}
	return b
}

func newRandom() *rand.Rand {
	return rand.New(rand.NewPCG(noiseOfTests, noiseOfTests))
}

func filled(a float32) impl.Block {
	var b impl.Block
	for i := range b {
		b[i] = a
	}
	return b
}

// sameBits does without SameSample, which is under test itself.
func sameBits(a, b float32) bool {
	if a != a || b != b {
		return a != a && b != b
	}
	return math.Float32bits(a) == math.Float32bits(b)
}

func wantSample(t *testing.T, name string, got, want float32) {
	t.Helper()
	if !sameBits(got, want) {
		t.Errorf("%s: got %v (%08x), want %v (%08x)", name, got, math.Float32bits(got), want, math.Float32bits(want))
	}
}

func wantSamples(t *testing.T, name string, got, want []float32) {
	t.Helper()
	if len(got) != len(want) {
		t.Errorf("%s: got %d samples, want %d", name, len(got), len(want))
		return
	}
	for i := range got {
		if !sameBits(got[i], want[i]) {
			t.Errorf("%s: at %d: got %v (%08x), want %v (%08x)", name, i, got[i], math.Float32bits(got[i]), want[i], math.Float32bits(want[i]))
			return
		}
	}
}

func wantBlock(t *testing.T, name string, got, want impl.Block) {
	t.Helper()
	wantSamples(t, name, got[:], want[:])
}

func want[T comparable](t *testing.T, name string, got, want T) {
	t.Helper()
	if got != want {
		t.Errorf("%s: got %v, want %v", name, got, want)
	}
}

func blockOfBits(bits [16]uint32) impl.Block {
	var b impl.Block
	for i, x := range bits {
		b[i] = math.Float32frombits(x)
	}
	return b
}
