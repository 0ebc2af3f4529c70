package tests

import (
	"bytes"
	"math"
	"math/big"
	"math/rand/v2"
	"slices"
	"strconv"
	"strings"
	"testing"

	"loop.example/g01173/impl"
)

// wordsOfDeeds has the table of the document: the word of a deed, and then A and B
// where the text mentions them.
var wordsOfDeeds = map[int64]string{1: "give A", 2: "work A", 3: "deliver A", 4: "copy A", 5: "drop A", 6: "spoil A B", 7: "sync", 8: "crash", 9: "quit A"}

// toldDeedText is for valid deeds.
func toldDeedText(d impl.Deed) string {
	text := strings.Replace(wordsOfDeeds[d.Kind], "A", strconv.FormatInt(d.A, 10), 1)
	return strings.Replace(text, "B", strconv.FormatInt(d.B, 10), 1)
}

// deeds has those of a text, each behind a comma and a blank but for the first one.
func deeds(text string) []impl.Deed {
	var list []impl.Deed
	for _, one := range strings.Split(text, ", ") {
		words := strings.Fields(one)
		for kind, form := range wordsOfDeeds {
			if len(words) > 0 && strings.Fields(form)[0] == words[0] {
				d := impl.Deed{Kind: kind}
				for i, place := range []*int64{&d.A, &d.B} {
					if len(words) > 1+i {
						*place, _ = strconv.ParseInt(words[1+i], 10, 64)
					}
				}
				list = append(list, d)
			}
		}
	}
	return list
}

func textOfDeeds(list []impl.Deed) string {
	var texts []string
	for _, d := range list {
		texts = append(texts, toldDeedText(d))
	}
	return strings.Join(texts, ", ")
}

// round shares out a block: the worker 0 plays it.
const round = "give 0, deliver 0, work 0, deliver 0"

// rounds has so many of them.
func rounds(n int) string {
	return strings.TrimSuffix(strings.Repeat(round+", ", n), ", ")
}

// exampleStage is that of the example.
func exampleStage(t *testing.T) impl.Stage {
	t.Helper()
	return impl.Stage{Score: compiled(t, "rate 4000\nstring a 0 1/2 1/2\nplay a 0 1 3\n"), Voices: 1, Blocks: 2, Workers: 1}
}

// bandStage has three voices of the band.
func bandStage(t *testing.T, blocks, workers int64) impl.Stage {
	t.Helper()
	return impl.Stage{Score: bandScore(t), Voices: 3, Blocks: blocks, Workers: workers}
}

// loudStage has blocks that begin with 1, as its two strings are plucked at their
// ends with more than this.
func loudStage(t *testing.T, blocks, workers int64) impl.Stage {
	t.Helper()
	s := compiled(t, "rate 4000\nstring a 0 1 0\n"+"play a 0 3 100\nat 16\nplay a 0 3 100\nat 32\nplay a 0 3 100\n")
	return impl.Stage{Score: s, Voices: 3, Blocks: blocks, Workers: workers}
}

func anyStage(t *testing.T, r *rand.Rand) impl.Stage {
	t.Helper()
	return impl.Stage{Score: randomBand(t, r), Voices: 1 + r.Int64N(6), Blocks: []int64{1, 2, 3, 12, 1 + r.Int64N(12)}[r.IntN(5)], Workers: 1 + r.Int64N(3)}
}

// anyDeeds has deeds of every kind, most of which can be done.
func anyDeeds(r *rand.Rand, s impl.Stage, count int) []impl.Deed {
	var list []impl.Deed
	for range count {
		d := impl.Deed{Kind: []int64{1, 1, 1, 1, 2, 2, 2, 2, 3, 3, 3, 3, 3, 3, 4, 4, 5, 6, 7, 8, 9}[r.IntN(21)]}
		switch d.Kind {
		case impl.DdGive, impl.DdWork, impl.DdQuit:
			d.A = pick(r.IntN(12) == 0, r.Int64N(5), r.Int64N(s.Workers))
		case impl.DdDeliver, impl.DdCopy, impl.DdDrop:
			d.A = pick(r.IntN(4) == 0, r.Int64N(10), r.Int64N(3))
		case impl.DdSpoil:
			d.A, d.B = r.Int64N(4), pick(r.IntN(2) == 0, r.Int64N(35), 30)
		}
		list = append(list, d)
	}
	return list
}

// told is a stage that is played as the document tells it, deed by deed. It knows
// what each block is, and the text behind it, from the piece played at once.
type told struct {
	stage  impl.Stage
	blocks []impl.Block
	states []string
	hall   impl.Hall
}

func newTold(t *testing.T, s impl.Stage) *told {
	t.Helper()
	m := &told{stage: s}
	_, made := playedOn(t, newPlayer(s.Score, s.Voices), 16*s.Blocks)
	for i := range s.Blocks + 1 {
		p, code := impl.PlayerAt(s.Score, s.Voices, 16*i)
		want(t, "PlayerAt", code, impl.OK)
		m.states = append(m.states, impl.PlayerText(p))
		if i < s.Blocks {
			m.blocks = append(m.blocks, impl.Block(made[16*i:]))
		}
	}
	m.hall = impl.Hall{State: m.states[0], Kept: m.states[0], Benches: make([]impl.Bench, s.Workers)}
	return m
}

// canonical stands for the bits of a sample.
func canonical(a float32) uint32 {
	return pick(a == a, math.Float32bits(a), 0x7fc00000)
}

// toldCheck counts with numbers of any length.
func toldCheck(index int64, state string, b impl.Block) uint32 {
	var list []uint32
	for _, c := range []byte(state) {
		list = append(list, uint32(c))
	}
	whole := new(big.Int).Mod(big.NewInt(index), big.NewInt(1<<32))
	list = append(list, uint32(whole.Uint64()))
	for _, a := range b {
		list = append(list, canonical(a))
	}
	found := uint64(2166136261)
	for _, n := range list {
		found = (found ^ uint64(n)) * 16777619 % (1 << 32)
	}
	return uint32(found)
}

func (m *told) do(d impl.Deed) int64 {
	h := &m.hall
	played := int64(len(h.Done))
	switch d.Kind {
	case impl.DdGive, impl.DdWork, impl.DdQuit:
		if d.A >= m.stage.Workers {
			return impl.ErrRange
		}
	case impl.DdDeliver, impl.DdCopy, impl.DdDrop, impl.DdSpoil:
		if d.A >= int64(len(h.Wire)) || d.B > 31 {
			return impl.ErrRange
		}
	case impl.DdSync:
		h.Synced, h.Kept = played, h.State
	case impl.DdCrash:
		h.Done, h.State = slices.Clone(h.Done[:h.Synced]), h.Kept
	}
	isFull := len(h.Wire) == 8
	switch d.Kind {
	case impl.DdGive:
		if played == m.stage.Blocks || isFull {
			return pick[int64](played == m.stage.Blocks, impl.ErrState, impl.ErrLimit)
		}
		h.Wire = append(h.Wire, impl.Cargo{Worker: d.A, Index: played, State: h.State})
	case impl.DdWork:
		b := h.Benches[d.A]
		if !b.Busy || isFull {
			return pick[int64](!b.Busy, impl.ErrState, impl.ErrLimit)
		}
		h.Wire = append(h.Wire, m.madeOf(d.A, b.Index))
		h.Benches[d.A] = impl.Bench{}
	case impl.DdDeliver:
		c := h.Wire[d.A]
		h.Wire = slices.Delete(h.Wire, int(d.A), int(d.A)+1)
		m.comeIn(c)
	case impl.DdCopy:
		m.comeIn(h.Wire[d.A])
	case impl.DdDrop:
		h.Wire = slices.Delete(h.Wire, int(d.A), int(d.A)+1)
	case impl.DdSpoil:
		c := &h.Wire[d.A]
		if !c.Back {
			return impl.ErrState
		}
		c.Samples[0] = math.Float32frombits(canonical(c.Samples[0]) ^ uint32(math.Pow(2, float64(d.B))))
	case impl.DdQuit:
		h.Benches[d.A] = impl.Bench{}
	}
	return impl.OK
}

// madeOf is the cargo with a block that comes back.
func (m *told) madeOf(worker, index int64) impl.Cargo {
	b, state := m.blocks[index], m.states[index+1]
	return impl.Cargo{Back: true, Worker: worker, Index: index, State: state, Samples: b, Check: toldCheck(index, state, b)}
}

func (m *told) comeIn(c impl.Cargo) {
	h := &m.hall
	if !c.Back {
		if !h.Benches[c.Worker].Busy {
			h.Benches[c.Worker] = impl.Bench{Busy: true, Index: c.Index, State: c.State}
		}
		return
	}
	if c.Check == toldCheck(c.Index, c.State, c.Samples) && c.Index == int64(len(h.Done)) {
		h.Done, h.State = append(h.Done, c.Samples), c.State
	}
}

func (m *told) doAll(list []impl.Deed) []int64 {
	var codes []int64
	for _, d := range list {
		codes = append(codes, m.do(d))
	}
	return codes
}

// toldPlan is what FinishDeeds has to return.
func (m *told) toldPlan() []impl.Deed {
	left := int(m.stage.Blocks) - len(m.hall.Done)
	return deeds(strings.Repeat("drop 0, ", len(m.hall.Wire)) + "quit 0, " + strings.Repeat(round+", ", left) + "sync")
}

func samplesIn(blocks []impl.Block) []float32 {
	samples := []float32{}
	for _, b := range blocks {
		samples = append(samples, b[:]...)
	}
	return samples
}

// toldFile has its numbers written by big.Int, highest byte first, and turned.
func toldFile(kind byte, rate int64, samples []float32) []byte {
	number := func(n int64, width int) []byte {
		list := big.NewInt(n).FillBytes(make([]byte, width))
		slices.Reverse(list)
		return list
	}
	data := append([]byte{'S', 'P', 'F', kind}, number(rate, 4)...)
	data = append(data, number(int64(len(samples)), 4)...)
	for _, a := range samples {
		if kind == 1 {
			n := int64(impl.ToShort(a))
			data = append(data, number(pick(n < 0, 65536+n, n), 2)...)
		} else {
			data = append(data, number(int64(canonical(a)), 4)...)
		}
	}
	return append(data, number(int64(checkOfBytes(data)), 4)...)
}

func checkOfBytes(data []byte) uint32 {
	found := uint64(2166136261)
	for _, c := range data {
		found = (found ^ uint64(c)) * 16777619 % (1 << 32)
	}
	return uint32(found)
}

func wantHall(t *testing.T, name string, got, expected impl.Hall) {
	t.Helper()
	if g, e := writtenDown(got), writtenDown(expected); g != e {
		t.Errorf("%s: got %+v, want %+v", name, got, expected)
	}
}

// hallOf is for valid stages, and deeds that are valid and not too many.
func hallOf(t *testing.T, s impl.Stage, list []impl.Deed) impl.Hall {
	t.Helper()
	hall, _, code := impl.HallAfter(s, list)
	want(t, "HallAfter", code, impl.OK)
	return hall
}

// wantAfter holds all that is told behind deeds against the document.
func wantAfter(t *testing.T, s impl.Stage, list []impl.Deed) {
	t.Helper()
	m := newTold(t, s)
	codes := m.doAll(list)
	name := textOfDeeds(list)
	hall, done, code := impl.HallAfter(s, list)
	want(t, name+": HallAfter", code, impl.OK)
	wantHall(t, name, hall, m.hall)
	refused := slices.DeleteFunc(slices.Clone(codes), func(code int64) bool { return code == impl.OK })
	want(t, name+": done", done, int64(len(list)-len(refused)))
	at, why, code := impl.RefusedDeed(s, list)
	if len(refused) == 0 {
		want(t, name+": RefusedDeed", [3]int64{at, why, code}, [3]int64{0, 0, impl.ErrNotFound})
	} else {
		want(t, name+": RefusedDeed", [3]int64{at, why, code}, [3]int64{int64(slices.Index(codes, refused[0])), refused[0], impl.OK})
	}
	samples, code := impl.SamplesAfter(s, list)
	want(t, name+": SamplesAfter", code, impl.OK)
	wantSamples(t, name, samples, samplesIn(m.hall.Done))
	for _, kind := range []byte{1, 2} {
		file, code := impl.FileAfter(s, list, int64(kind))
		want(t, name+": FileAfter", code, impl.OK)
		want(t, name+": FileAfter", bytes.Equal(file, toldFile(kind, int64(math.Floor(float64(s.Score.Rate))), samplesIn(m.hall.Done))), true)
	}
	plan, code := impl.FinishDeeds(s, list)
	expected := m.toldPlan()
	if len(list)+len(expected) > 150 {
		expected = nil
	}
	want(t, name+": FinishDeeds", code, pick[int64](expected == nil, impl.ErrLimit, impl.OK))
	want(t, name+": FinishDeeds", textOfDeeds(plan), textOfDeeds(expected))
}

// wantBlocksPlayed holds how many blocks deeds have played, and that they are those of
// the piece.
func wantBlocksPlayed(t *testing.T, s impl.Stage, text string, blocks int) {
	t.Helper()
	list := deeds(text)
	wantAfter(t, s, list)
	sound, _ := impl.SoundOf(s)
	samples, _ := impl.SamplesAfter(s, list)
	want(t, text, len(samples), 16*blocks)
	wantSamples(t, text, samples, sound[:len(samples)])
}

// wantNoneAfter is for stages and deeds that are refused as a whole.
func wantNoneAfter(t *testing.T, s impl.Stage, list []impl.Deed, expected int64) {
	t.Helper()
	hall, done, code := impl.HallAfter(s, list)
	wantHall(t, "HallAfter, with an error", hall, impl.Hall{})
	want(t, "HallAfter", [2]int64{done, code}, [2]int64{0, expected})
	at, why, code := impl.RefusedDeed(s, list)
	want(t, "RefusedDeed", [3]int64{at, why, code}, [3]int64{0, 0, expected})
	samples, code := impl.SamplesAfter(s, list)
	want(t, "SamplesAfter", [2]int64{int64(len(samples)), code}, [2]int64{0, expected})
	for kind := range int64(4) {
		file, code := impl.FileAfter(s, list, kind)
		want(t, "FileAfter", [2]int64{int64(len(file)), code}, [2]int64{0, expected})
	}
	plan, code := impl.FinishDeeds(s, list)
	want(t, "FinishDeeds", [2]int64{int64(len(plan)), code}, [2]int64{0, expected})
}

// invalidStages has one change to a valid one each.
func invalidStages(t *testing.T) []impl.Stage {
	t.Helper()
	var list []impl.Stage
	with := func(change func(s *impl.Stage)) {
		s := bandStage(t, 2, 2)
		change(&s)
		list = append(list, s)
	}
	for _, n := range []int64{0, -1, 13, 1 << 32, 1<<32 + 1, -1 << 32, math.MaxInt64, math.MinInt64} {
		with(func(s *impl.Stage) { s.Voices = n })
		with(func(s *impl.Stage) { s.Blocks = n })
		with(func(s *impl.Stage) { s.Workers = n })
	}
	with(func(s *impl.Stage) { s.Voices = 7 })
	with(func(s *impl.Stage) { s.Workers = 4 })
	for _, score := range invalidScores() {
		with(func(s *impl.Stage) { s.Score = score })
	}
	return append(list, impl.Stage{}, impl.Stage{Voices: 1, Blocks: 1, Workers: 1}, impl.Stage{Score: bandScore(t)})
}

// invalidDeeds has each number of each kind beyond its limits.
func invalidDeeds() []impl.Deed {
	var list []impl.Deed
	for kind, form := range wordsOfDeeds {
		for _, n := range []int64{-1, 1000, 1 << 32, -1 << 32, math.MaxInt64, math.MinInt64} {
			list = append(list, impl.Deed{Kind: kind, A: n}, impl.Deed{Kind: kind, B: n})
		}
		for _, n := range []int64{1, 31, 999} {
			if !strings.Contains(form, "A") {
				list = append(list, impl.Deed{Kind: kind, A: n})
			}
			if !strings.Contains(form, "B") {
				list = append(list, impl.Deed{Kind: kind, B: n})
			}
		}
	}
	for _, kind := range []int64{0, -1, 10, 11, 257, 1<<32 + 1, -1 << 32, math.MaxInt64, math.MinInt64} {
		list = append(list, impl.Deed{Kind: kind}, impl.Deed{Kind: kind, A: 1}, impl.Deed{Kind: kind, A: 1, B: 1})
	}
	// Maps have no order.
	slices.SortFunc(list, func(d, e impl.Deed) int {
		return slices.Compare([]int64{d.Kind, d.A, d.B}, []int64{e.Kind, e.A, e.B})
	})
	return list
}
