package tests

import (
	"math"
	"testing"

	"loop.example/g01173/impl"
)

// bridgeOf is the step of the document, written down once more.
func bridgeOf(list []impl.String, share float32, in []float32) ([]impl.String, []float32) {
	all := list[0].Loop.Samples[list[0].Loop.At]
	for _, x := range list[1:] {
		all = sumOf(all, x.Loop.Samples[x.Loop.At])
	}
	behind := make([]impl.String, len(list))
	made := make([]float32, len(list))
	for i, x := range list {
		behind[i], made[i] = stepOfString(x, sumOf(in[i], proOf(share, all)))
	}
	return behind, made
}

func wantBridge(t *testing.T, list []impl.String, share float32, in []float32) []impl.String {
	t.Helper()
	expected, out := bridgeOf(list, share, in)
	behind, made, code := impl.StepBridge(list, share, in)
	want(t, "StepBridge", code, impl.OK)
	wantSamples(t, "what they make", made, out)
	want(t, "the strings", len(behind), len(list))
	for i := range behind {
		wantString(t, "StepBridge", behind[i], expected[i])
	}
	return behind
}

func TestP7BridgesAreThoseOfTheDocument(t *testing.T) {
	random := newRandom()
	valid := validStrings()
	kinds := awkward()
	for round := range 600 {
		n := 1 + round%impl.MaxStrings
		list := make([]impl.String, n)
		noise := loudBlock(random)
		in := noise[:n]
		for i := range list {
			list[i] = valid[random.IntN(len(valid))]
			if random.IntN(4) == 0 {
				in[i] = kinds[random.IntN(len(kinds))]
			}
		}
		share := []float32{0.5, -0.3, 0, minusZero, leastSample, -leastNormal, greatest, 1}[random.IntN(8)]
		for range 5 {
			list = wantBridge(t, list, share, in)
		}
	}
}

func TestP7StringsThatShareNothingMakeWhatTheyMakeAlone(t *testing.T) {
	for n := 1; n <= impl.MaxStrings; n++ {
		for _, share := range []float32{0, minusZero} {
			var list, alone []impl.String
			for i := range n {
				x := plucked(newString(5.3+7*float32(i), 0.1*float32(i), 0.99), 0.3, float32(i)-1.5)
				list, alone = append(list, x), append(alone, x)
			}
			for k := range 200 {
				in := []float32{0, minusZero, 0.25, -leastNormal}[:n]
				if k%3 > 0 {
					in = make([]float32, n)
				}
				behind, made, code := impl.StepBridge(list, share, in)
				want(t, "StepBridge", code, impl.OK)
				for i := range alone {
					next, out, _ := impl.StepString(alone[i], in[i])
					wantSample(t, "what it makes alone", made[i], out)
					wantString(t, "what it is alone", behind[i], next)
					alone[i] = next
				}
				list = behind
			}
		}
	}
}

func TestP7StringsThatShare(t *testing.T) {
	x, y := withRing(newString(4, 0, 0), 1, 7, 2, 9), withRing(newString(3, 0, 0), 0, 3, 5)
	behind, made, code := impl.StepBridge([]impl.String{x, y}, 0.5, []float32{10, -20})
	want(t, "StepBridge", code, impl.OK)
	wantSamples(t, "what they make", made, []float32{2, 3})
	wantRing(t, "the first one", behind[0].Loop, impl.Ring{Samples: []float32{7, 12.5, 9}, At: 2})
	wantRing(t, "the second one", behind[1].Loop, impl.Ring{Samples: []float32{-17.5, 5}, At: 1})
	// From the first to the last one, in this order.
	for _, c := range []struct {
		samples [4]float32
		share   float32
		comes   float32
	}{
		{[4]float32{1, 1e8, -1e8, 0.5}, 1, 0.5}, {[4]float32{1e8, -1e8, 1, 0.5}, 1, 1.5}, {[4]float32{greatest, greatest, -greatest, -greatest}, 1, 0}, {[4]float32{greatest, -greatest, greatest, -greatest}, 1, 0},
		{[4]float32{infinite, 1, 1, 1}, 0, 0}, {[4]float32{nan, 1, 1, 1}, 1, 0}, {[4]float32{mostSub, leastSample, 0, 0}, 1, leastNormal}, {[4]float32{greatest, 0, 0, 0}, 2, 0}, {[4]float32{1, 2, 3, 4}, -0.5, -5},
	} {
		var list []impl.String
		for _, a := range c.samples {
			list = append(list, withRing(newString(4, 0, 0), 0, a, 0, 0))
		}
		behind, made, code := impl.StepBridge(list, c.share, make([]float32, 4))
		want(t, "StepBridge", code, impl.OK)
		wantSamples(t, "what they make", made, c.samples[:])
		for _, x := range behind[1:3] {
			wantSample(t, "what comes", x.Loop.Samples[0], c.comes)
		}
	}
}

func TestP7BridgesMakeWhatWasCalculated(t *testing.T) {
	list := []impl.String{newString(4.5, 0.1, 0.9), newString(6.3, 0.4, 0.8), newString(3, 0, 0.99)}
	for i := range list {
		list[i] = plucked(list[i], 0.4, 0.5+float32(i))
	}
	tenth := float32(0.1)
	for k, bits := range [][3]uint32{
		{0x00000000, 0x00000000, 0x00000000}, {0x3ea00000, 0x3f400000, 0x40055555}, {0x3ed55555, 0x3fc00000, 0xbd4ccccd}, {0x3e555555, 0x3f800000, 0xbf7e6667},
		{0x00000000, 0x3f000000, 0x3fb9eb85}, {0xbf3c3a84, 0x00000000, 0xbe27ceda}, {0x3b5a2c00, 0xbf6cbfde, 0xbfcf4dd4}, {0x3f08afaa, 0xbe1a150e, 0x3fd4301a},
	} {
		behind, made, code := impl.StepBridge(list, -0.3, []float32{float32(tenth * float32(k)), 0, -0.05})
		want(t, "StepBridge", code, impl.OK)
		expected := bitsOf3(bits)
		wantSamples(t, "StepBridge", made, expected[:])
		list = behind
	}
	for i, x := range []struct {
		bits       []uint32
		at         int64
		tune, damp [2]uint32
	}{
		{[]uint32{0xbdcb62c6, 0x3efe0e73, 0x3f5b554a, 0x3eda4507}, 0, [2]uint32{0x3f08afaa, 0x3ef76374}, [2]uint32{0x3ef76374, 0}},
		{[]uint32{0x3f49f07e, 0x3f5f22f8, 0xbf8a6af5, 0x3f6cb267, 0x3eb40e6c}, 3, [2]uint32{0xbe1a150e, 0xbf6dcd45}, [2]uint32{0xbf6dcd45, 0}},
		{[]uint32{0x3f0cd1b0, 0xc0110190}, 0, [2]uint32{0x3fd4301a, 0xbfcf4dd4}, [2]uint32{0xbfcf4dd4, 0}},
	} {
		want(t, "At", list[i].Loop.At, x.at)
		want(t, "samples", len(list[i].Loop.Samples), len(x.bits))
		for j, b := range x.bits {
			wantSample(t, "the ring", list[i].Loop.Samples[j], math.Float32frombits(b))
		}
		want(t, "Tune", list[i].Tune.S, bitsOf2(x.tune))
		want(t, "Damp", list[i].Damp.S, bitsOf2(x.damp))
	}
}

func TestP7BridgesOutOfRange(t *testing.T) {
	x := plucked(newString(5.5, 0.1, 0.9), 0.3, 1)
	for n := range impl.MaxStrings + 3 {
		list := make([]impl.String, n)
		for i := range list {
			list[i] = x
		}
		for m := range impl.MaxStrings + 3 {
			in := make([]float32, m)
			wantBridgeCode(t, list, 0.5, in, pick(n == m && n >= 1 && n <= impl.MaxStrings, int64(impl.OK), impl.ErrRange))
			for _, share := range noForces {
				wantBridgeCode(t, list, share, in, impl.ErrRange)
			}
		}
		wantBridgeCode(t, list, 1, nil, impl.ErrRange)
		wantBridgeCode(t, list, 1, make([]float32, 500000), impl.ErrRange)
		bad := invalidStrings()
		for i := range list {
			for j := range bad {
				list[i] = bad[j]
				wantBridgeCode(t, list, []float32{0.5, nan}[j%2], make([]float32, n+j%3), impl.ErrInvalid)
			}
			list[i] = x
		}
	}
	wantBridgeCode(t, nil, 0, nil, impl.ErrRange)
	wantBridgeCode(t, nil, nan, []float32{1}, impl.ErrRange)
}

func wantBridgeCode(t *testing.T, list []impl.String, share float32, in []float32, expected int64) {
	t.Helper()
	behind, made, code := impl.StepBridge(list, share, in)
	if code != expected {
		t.Errorf("StepBridge of %d strings, %v and %d samples: got %d, want %d", len(list), share, len(in), code, expected)
	}
	if code != impl.OK {
		want(t, "strings with an error", len(behind), 0)
		want(t, "samples with an error", len(made), 0)
	}
}
