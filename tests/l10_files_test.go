package tests

import (
	"bytes"
	"encoding/hex"
	"math"
	"math/rand/v2"
	"slices"
	"testing"

	"loop.example/g01173/impl"
)

// wantFile goes for kinds, rates and samples of which there is a file.
func wantFile(t *testing.T, kind, rate int64, samples []float32) []byte {
	t.Helper()
	data, code := impl.MakeSoundFile(kind, rate, samples)
	want(t, "MakeSoundFile", code, impl.OK)
	if expected := toldFile(byte(kind), rate, samples); !bytes.Equal(data, expected) {
		t.Errorf("MakeSoundFile %d, %d, %v: got %x, want %x", kind, rate, samples, data, expected)
	}
	return data
}

func wantNoFile(t *testing.T, kind, rate int64, samples []float32, expected int64) {
	t.Helper()
	data, code := impl.MakeSoundFile(kind, rate, samples)
	if len(data) != 0 || code != expected {
		t.Errorf("MakeSoundFile %d, %d, %d samples: got %d bytes, %d, want %d", kind, rate, len(samples), len(data), code, expected)
	}
}

func wantRead(t *testing.T, data []byte, kind, rate int64, samples []float32) {
	t.Helper()
	k, r, list, code := impl.ReadSoundFile(data)
	want(t, "ReadSoundFile", [3]int64{k, r, code}, [3]int64{kind, rate, impl.OK})
	wantSamples(t, "ReadSoundFile", list, samples)
}

func wantNotRead(t *testing.T, data []byte, expected int64) {
	t.Helper()
	k, r, list, code := impl.ReadSoundFile(data)
	if k != 0 || r != 0 || len(list) != 0 || code != expected {
		t.Errorf("ReadSoundFile of %d bytes, %.40x: got %d, %d, %d samples, %d, want %d", len(data), data, k, r, len(list), code, expected)
	}
}

func wantTorn(t *testing.T, data []byte, samples []float32) {
	t.Helper()
	list, code := impl.TornSamples(data)
	want(t, "TornSamples", code, impl.OK)
	wantSamples(t, "TornSamples", list, samples)
}

func wantNotTorn(t *testing.T, data []byte, expected int64) {
	t.Helper()
	list, code := impl.TornSamples(data)
	if len(list) != 0 || code != expected {
		t.Errorf("TornSamples of %d bytes, %.40x: got %d samples, %d, want %d", len(data), data, len(list), code, expected)
	}
}

// keptIn has what a file of a kind gives back.
func keptIn(kind int64, samples []float32) []float32 {
	list := slices.Clone(samples)
	for i, a := range list {
		if kind == impl.SfShort {
			list[i] = impl.FromShort(impl.ToShort(a))
		}
	}
	return list
}

func ofHex(t *testing.T, text string) []byte {
	t.Helper()
	data, err := hex.DecodeString(text)
	if err != nil {
		t.Fatal(err)
	}
	return data
}

// withCheck has another check, that of the bytes ahead of it.
func withCheck(data []byte) []byte {
	n := len(data) - 4
	check := checkOfBytes(data[:n])
	return append(slices.Clone(data[:n]), byte(check), byte(check>>8), byte(check>>16), byte(check>>24))
}

// withBytes has others from some place on.
func withBytes(data []byte, at int, list ...byte) []byte {
	data = slices.Clone(data)
	copy(data[at:], list)
	return data
}

func TestP17FilesByteByByte(t *testing.T) {
	for _, c := range []struct {
		kind, rate    int64
		samples, back []float32
		file          string
	}{
		{1, 8000, []float32{0.5, -1}, []float32{0.5, -1}, "53504601401f00000200000000400080602791ee"},
		{2, 1000000, []float32{0.5, -1, otherNaN, minusZero, leastSample}, []float32{0.5, -1, nan, minusZero, leastSample}, "5350460240420f00050000000000003f000080bf0000c07f00000080010000000a11e259"},
		{1, 1, nil, nil, "535046010100000000000000829788b1"},
		{2, 44100, []float32{}, nil, "5350460244ac0000000000009e08a893"},
	} {
		data := wantFile(t, c.kind, c.rate, c.samples)
		want(t, "the file", hex.EncodeToString(data), c.file)
		wantRead(t, ofHex(t, c.file), c.kind, c.rate, c.back)
		wantTorn(t, ofHex(t, c.file), c.back)
	}
}

func TestP17FilesGiveBackTheirSamples(t *testing.T) {
	random := newRandom()
	lists := [][]float32{nil, {}, awkward(), {nan}, {otherNaN}, {infinite, -infinite}, {minusZero, 0}, {leastSample, -leastSample, mostSub}}
	for n := range 40 {
		var list []float32
		for range n {
			b := pick(n%2 == 0, anyBlock, loudBlock)(random)
			list = append(list, b[random.IntN(16)])
		}
		lists = append(lists, list)
	}
	for _, samples := range lists {
		for _, rate := range []int64{1, 8000, 44100, 1000000} {
			for kind := int64(1); kind <= 2; kind++ {
				data := wantFile(t, kind, rate, samples)
				want(t, "bytes", len(data), 16+2*int(kind)*len(samples))
				wantRead(t, data, kind, rate, keptIn(kind, samples))
				wantTorn(t, data, keptIn(kind, samples))
			}
		}
	}
}

func TestP17FilesOfIntegersHaveTheNearestOnes(t *testing.T) {
	samples := []float32{0, minusZero, leastSample, mostSub, 0.5 / 32768, 1.5 / 32768, -0.5 / 32768, -1.5 / 32768, 1, -1, 32767.0 / 32768, 32767.4 / 32768, greatest, -greatest, infinite, -infinite, nan, otherNaN}
	back := []float32{0, 0, 0, 0, 0, 2.0 / 32768, 0, -2.0 / 32768, 32767.0 / 32768, -1, 32767.0 / 32768, 32767.0 / 32768, 32767.0 / 32768, -1, 32767.0 / 32768, -1, 0, 0}
	wantRead(t, wantFile(t, impl.SfShort, 5, samples), impl.SfShort, 5, back)
	var all []float32
	for n := -32768; n <= 32767; n++ {
		all = append(all, float32(n)/32768)
	}
	for rest := range slices.Chunk(all, 4096) {
		wantRead(t, wantFile(t, impl.SfShort, 5, rest), impl.SfShort, 5, rest)
	}
}

func TestP17NoFiles(t *testing.T) {
	full := make([]float32, 4096)
	more := make([]float32, 4097)
	badKinds := []int64{0, 3, -1, 4, 255, 256, 257, 258, 1<<32 + 1, 1<<32 + 2, math.MaxInt64, math.MinInt64}
	badRates := []int64{0, 1000001, -1, -8000, 1<<32 + 8000, 1 << 32, math.MaxInt64, math.MinInt64}
	for kind := int64(1); kind <= 2; kind++ {
		for _, rate := range []int64{1, 2, 999999, 1000000} {
			wantFile(t, kind, rate, nil)
			wantFile(t, kind, rate, full)
			wantNoFile(t, kind, rate, more, impl.ErrLimit)
		}
		for _, rate := range badRates {
			wantNoFile(t, kind, rate, nil, impl.ErrRange)
			wantNoFile(t, kind, rate, full, impl.ErrRange)
			wantNoFile(t, kind, rate, more, impl.ErrLimit)
		}
	}
	for _, kind := range badKinds {
		for _, rate := range append([]int64{1, 8000, 1000000}, badRates...) {
			wantNoFile(t, kind, rate, nil, impl.ErrRange)
			wantNoFile(t, kind, rate, full, impl.ErrRange)
			wantNoFile(t, kind, rate, more, impl.ErrLimit)
		}
	}
}

func TestP17FilesThatAreNone(t *testing.T) {
	for kind := int64(1); kind <= 2; kind++ {
		data := wantFile(t, kind, 8000, []float32{0.5, -1, 0.25})
		for n := range len(data) {
			wantNotRead(t, data[:n], impl.ErrSyntax)
			wantNotRead(t, append(data[:n:n], 0, 0, 0, 0), pick[int64](n == len(data)-4, impl.ErrProof, impl.ErrSyntax))
		}
		for n := 1; n < 20; n++ {
			longer := append(slices.Clone(data), make([]byte, n)...)
			wantNotRead(t, longer, impl.ErrSyntax)
			wantNotRead(t, withCheck(longer), impl.ErrSyntax)
		}
		for _, change := range [][]byte{
			withBytes(data, 0, 's'), withBytes(data, 1, 'p'), withBytes(data, 2, 'f'), withBytes(data, 0, 'F', 'P', 'S'), withBytes(data, 0, 0, 0, 0), withBytes(data, 0, 'P', 'F', 'S'),
			withBytes(data, 3, 0), withBytes(data, 3, 3), withBytes(data, 3, 255), withBytes(data, 3, '1'), withBytes(data, 3, byte(3-kind)), withBytes(data, 3, byte(128+kind)),
			withBytes(data, 4, 0, 0, 0, 0), withBytes(data, 4, 0x41, 0x42, 0x0f, 0), withBytes(data, 4, 0, 0, 0, 1), withBytes(data, 4, 255, 255, 255, 255), withBytes(data, 7, 0x80),
			withBytes(data, 8, 0), withBytes(data, 8, 1), withBytes(data, 8, 2), withBytes(data, 8, 4), withBytes(data, 8, 5), withBytes(data, 9, 1), withBytes(data, 10, 1), withBytes(data, 11, 1), withBytes(data, 11, 0x80), withBytes(data, 8, 255, 255, 255, 255),
		} {
			wantNotRead(t, change, impl.ErrSyntax)
			wantNotRead(t, withCheck(change), impl.ErrSyntax)
		}
	}
	for _, data := range [][]byte{nil, {}, []byte("SPF"), []byte("SPF\x01"), make([]byte, 15), make([]byte, 16), make([]byte, 16400), bytes.Repeat([]byte("SPF\x01"), 4100)} {
		wantNotRead(t, data, impl.ErrSyntax)
	}
}

func TestP17FilesThatAreChanged(t *testing.T) {
	samples := []float32{0.5, -1, 0.25, minusZero}
	for kind := int64(1); kind <= 2; kind++ {
		data := wantFile(t, kind, 8000, samples)
		for i := range data {
			for bit := range 8 {
				change := withBytes(data, i, data[i]^1<<bit)
				_, _, list, code := impl.ReadSoundFile(change)
				want(t, "samples", len(list), 0)
				// The samples, the rate and the check may be those of another file; other bytes not.
				isAnother := i >= 12 || i >= 4 && i < 8 && toldNumber(change[4:8]) <= 1000000 && toldNumber(change[4:8]) > 0
				want(t, "ReadSoundFile", code, pick[int64](isAnother, impl.ErrProof, impl.ErrSyntax))
			}
		}
	}
	// The rates and samples of another file, with its own check.
	for _, rate := range []int64{1, 1000000} {
		data := wantFile(t, impl.SfBits, 8000, samples)
		other := wantFile(t, impl.SfBits, rate, samples)
		wantRead(t, withCheck(withBytes(data, 4, other[4:8]...)), impl.SfBits, rate, samples)
		wantNotRead(t, withBytes(data, 4, other[4:8]...), impl.ErrProof)
	}
}

func toldNumber(list []byte) uint32 {
	n := uint32(0)
	for i := len(list) - 1; i >= 0; i-- {
		n = n*256 + uint32(list[i])
	}
	return n
}

func TestP17FilesWithOtherBitsOfNaN(t *testing.T) {
	data := wantFile(t, impl.SfBits, 8000, []float32{0.5, nan, 1})
	for _, bits := range [][]byte{{1, 0, 0xc0, 0x7f}, {0, 0, 0xc0, 0xff}, {1, 0, 0x80, 0x7f}, {1, 0, 0x80, 0xff}, {255, 255, 255, 0x7f}, {255, 255, 255, 255}, {0, 0, 0xa0, 0x7f}} {
		change := withBytes(data, 16, bits...)
		wantNotRead(t, change, impl.ErrSyntax)
		wantNotRead(t, withCheck(change), impl.ErrSyntax)
		wantTorn(t, change, []float32{0.5, nan, 1})
		// Also where it is the last sample.
		change = withBytes(data, 20, bits...)
		wantNotRead(t, change, impl.ErrSyntax)
		wantNotRead(t, withCheck(change), impl.ErrSyntax)
	}
	for _, bits := range [][]byte{{0, 0, 0x80, 0x7f}, {0, 0, 0x80, 0xff}, {255, 255, 0x7f, 0x7f}, {0, 0, 0, 0x80}, {1, 0, 0, 0}} {
		change := withBytes(data, 16, bits...)
		expected := []float32{0.5, math.Float32frombits(toldNumber(bits)), 1}
		wantNotRead(t, change, impl.ErrProof)
		wantRead(t, withCheck(change), impl.SfBits, 8000, expected)
		wantTorn(t, change, expected)
	}
	// Integers of any bits are those of samples.
	data = wantFile(t, impl.SfShort, 8000, []float32{0.5, 0, 1})
	wantRead(t, withCheck(withBytes(data, 14, 255, 255)), impl.SfShort, 8000, []float32{0.5, -1.0 / 32768, 32767.0 / 32768})
}

func TestP17LongFiles(t *testing.T) {
	random := newRandom()
	var samples []float32
	for range 256 {
		b := loudBlock(random)
		samples = append(samples, b[:]...)
	}
	for kind := int64(1); kind <= 2; kind++ {
		data := wantFile(t, kind, 44100, samples)
		want(t, "bytes", len(data), 16+2*int(kind)*4096)
		wantRead(t, data, kind, 44100, keptIn(kind, samples))
		wantTorn(t, data, keptIn(kind, samples))
		// One more sample than there may be: its bytes are there.
		longer := slices.Insert(withBytes(data, 8, 1, 0x10), 12, make([]byte, 2*int(kind))...)
		wantNotRead(t, withCheck(longer), pick[int64](kind == impl.SfBits, impl.ErrLimit, impl.ErrSyntax))
		wantNotTorn(t, withCheck(longer), pick[int64](kind == impl.SfBits, impl.ErrLimit, impl.ErrSyntax))
	}
	data := wantFile(t, impl.SfBits, 44100, samples)
	want(t, "bytes", len(data), 16400)
	wantNotRead(t, append(data, 0), impl.ErrLimit)
	wantNotTorn(t, append(data, 0), impl.ErrLimit)
	for _, n := range []int{16400, 16401, 16402, 20000, 1000000} {
		for _, first := range []string{"", "SPF\x01\x40\x1f\x00\x00\x02\x00\x00\x00"} {
			long := append([]byte(first), make([]byte, n-len(first))...)
			wantNotRead(t, long, pick[int64](n > 16400, impl.ErrLimit, impl.ErrSyntax))
			if n > 16400 || first == "" {
				wantNotTorn(t, long, pick[int64](n > 16400, impl.ErrLimit, impl.ErrSyntax))
			} else {
				wantTorn(t, long, []float32{0, 0})
			}
		}
	}
}

func TestP17TornFiles(t *testing.T) {
	samples := []float32{0.5, -1, minusZero, nan, 0.25, leastSample, infinite}
	for kind := int64(1); kind <= 2; kind++ {
		data := wantFile(t, kind, 8000, samples)
		for n := range len(data) + 1 {
			if n < 12 {
				wantNotTorn(t, data[:n], impl.ErrSyntax)
				continue
			}
			wantTorn(t, data[:n], keptIn(kind, samples)[:min((n-12)/(2*int(kind)), 7)])
		}
		// What is behind the samples makes no difference.
		wantTorn(t, append(slices.Clone(data), data...), keptIn(kind, samples))
		wantTorn(t, withBytes(data, len(data)-4, 1, 2, 3, 4), keptIn(kind, samples))
		for told := range 7 {
			wantTorn(t, withBytes(data, 8, byte(told)), keptIn(kind, samples)[:told])
		}
		// More may be told than there are, but not more than a file has.
		some := data[:12+2*int(kind)*3]
		for _, count := range [][]byte{{8}, {255}, {0, 1}, {255, 15}, {0, 16}} {
			wantTorn(t, withBytes(some, 8, count...), keptIn(kind, samples)[:3])
		}
		for _, count := range [][]byte{{1, 16}, {0, 17}, {0, 0, 1}, {0, 0, 0, 1}, {255, 255, 255, 255}, {0, 0, 0, 0x80}} {
			wantNotTorn(t, withBytes(some, 8, count...), impl.ErrSyntax)
			wantNotTorn(t, withBytes(data, 8, count...), impl.ErrSyntax)
		}
		for _, rate := range [][]byte{{1, 0, 0, 0}, {0x40, 0x42, 0x0f, 0}} {
			wantTorn(t, withBytes(some, 4, rate...), keptIn(kind, samples)[:3])
		}
		for _, change := range [][]byte{
			withBytes(some, 0, 's'), withBytes(some, 1, 'p'), withBytes(some, 2, 'f'), withBytes(some, 3, 0), withBytes(some, 3, 3), withBytes(some, 3, 255), withBytes(some, 4, 0, 0, 0, 0), withBytes(some, 4, 0x41, 0x42, 0x0f, 0), withBytes(some, 7, 1), withBytes(some, 7, 0x80),
		} {
			wantNotTorn(t, change, impl.ErrSyntax)
			wantNotTorn(t, change[:12], impl.ErrSyntax)
		}
	}
	for _, data := range [][]byte{nil, {}, []byte("SPF"), []byte("SPF\x01\x01\x00\x00\x00\x00\x00\x00"), make([]byte, 12), make([]byte, 16400)} {
		wantNotTorn(t, data, impl.ErrSyntax)
	}
	wantTorn(t, []byte("SPF\x01\x01\x00\x00\x00\x00\x00\x00\x00"), nil)
}

// randomChange also has files whose check is right, but whose rest may be wrong.
func randomChange(r *rand.Rand, data []byte) []byte {
	data = slices.Clone(data)
	for range 1 + r.IntN(3) {
		switch r.IntN(4) {
		case 0:
			data = data[:r.IntN(len(data)+1)]
		case 1:
			data = append(data, byte(r.IntN(256)), byte(r.IntN(256)))
		case 2:
			if len(data) > 0 {
				data[r.IntN(len(data))] ^= 1 << r.IntN(8)
			}
		case 3:
			if len(data) >= 16 {
				data = withCheck(data)
			}
		}
	}
	return data
}

func TestP17RandomFiles(t *testing.T) {
	random := newRandom()
	for i := range 20000 {
		b := pick(i%3 == 0, anyBlock, loudBlock)(random)
		kind, rate := 1+random.Int64N(2), 1+random.Int64N(1000000)
		data := randomChange(random, wantFile(t, kind, rate, b[:random.IntN(17)]))
		k, r, samples, code := impl.ReadSoundFile(data)
		torn, other := impl.TornSamples(data)
		if code == impl.OK {
			// What is read is the file of this, to the last byte.
			want(t, "the file", bytes.Equal(toldFile(byte(k), r, samples), data), true)
		} else {
			want(t, "no samples", len(samples)+int(k+r), 0)
		}
		if code == impl.OK || code == impl.ErrProof {
			want(t, "TornSamples", other, impl.OK)
			want(t, "as many", len(data), 16+2*int(data[3])*len(torn))
			want(t, "the check", code == impl.OK, bytes.Equal(withCheck(data), data))
		}
	}
}
