package tests

import (
	"fmt"
	"math"
	"runtime"
	"slices"
	"strings"
	"testing"
	"time"

	"loop.example/g01173/impl"
)

func answersOfStages(s impl.Stage, list []impl.Deed, kind int64) string {
	all := []any{impl.ValidStage(s)}
	sound, code := impl.SoundOf(s)
	all = append(all, sound, code)
	hall, done, code := impl.HallAfter(s, list)
	all = append(all, hall, done, code)
	at, why, code := impl.RefusedDeed(s, list)
	all = append(all, at, why, code)
	samples, code := impl.SamplesAfter(s, list)
	all = append(all, samples, code)
	file, code := impl.FileAfter(s, list, kind)
	all = append(all, file, code)
	plan, code := impl.FinishDeeds(s, list)
	all = append(all, len(plan), plan, code)
	text := ""
	for _, d := range list[:min(len(list), 95)] {
		all = append(all, impl.ValidDeed(d), impl.DeedText(d))
		read, code := impl.ReadDeed(impl.DeedText(d))
		all = append(all, read, code)
		text += impl.DeedText(d) + "\n"
	}
	out, code := impl.RunScript(s, text+"played\nblock 0\nblock 1\n")
	all = append(all, out, code, impl.CheckOf(kind, text, impl.Block{float32(kind)}))
	return writtenDown(all...)
}

func answersOfFiles(kind, rate int64, samples []float32, data []byte) string {
	made, code := impl.MakeSoundFile(kind, rate, samples)
	all := []any{made, code}
	k, r, list, code := impl.ReadSoundFile(data)
	all = append(all, k, r, list, code)
	torn, code := impl.TornSamples(data)
	return writtenDown(append(all, torn, code)...)
}

func TestP1ReturnsTheSameForAllStages(t *testing.T) {
	random := newRandom()
	stages := append(invalidStages(t)[:40], exampleStage(t), bandStage(t, 12, 3), loudStage(t, 3, 2))
	for range 40 {
		stages = append(stages, anyStage(t, random))
	}
	for i, s := range stages {
		lists := [][]impl.Deed{nil, anyDeeds(random, bandStage(t, 2, 3), 150), anyDeeds(random, bandStage(t, 2, 3), 151), invalidDeeds()[:90], {{}}}
		if impl.ValidStage(s) {
			lists = append(lists, busyDeeds(random, s), anyDeeds(random, s, 60))
		}
		for j, list := range lists {
			before := writtenDown(s, list)
			kind := []int64{0, 1, 2, 3, math.MaxInt64, math.MinInt64}[(i+j)%6]
			first := answersOfStages(s, list, kind)
			want(t, "the second time", answersOfStages(s, list, kind), first)
			other := s
			other.Score = copiedScore(s.Score)
			want(t, "of the same", answersOfStages(other, slices.Clone(list), kind), first)
			want(t, "the arguments", writtenDown(s, list), before)
		}
	}
}

func TestP1ReturnsTheSameForAllFiles(t *testing.T) {
	random := newRandom()
	for range 3000 {
		b := anyBlock(random)
		data := randomChange(random, wantFile(t, 1+random.Int64N(2), 8000, b[:random.IntN(17)]))
		kind, rate := random.Int64N(4), random.Int64N(1000002)
		before := writtenDown(b, data)
		first := answersOfFiles(kind, rate, b[:], data)
		want(t, "the second time", answersOfFiles(kind, rate, b[:], data), first)
		want(t, "the arguments", writtenDown(b, data), before)
	}
}

func TestP1StagesDoNotDependOnGoroutines(t *testing.T) {
	defer runtime.GOMAXPROCS(runtime.GOMAXPROCS(0))
	random := newRandom()
	for i := range 12 {
		s := anyStage(t, random)
		s.Workers = 3
		list := anyDeeds(random, s, 150)
		if i%2 == 0 {
			list = busyDeeds(random, s)
		}
		m := newTold(t, s)
		m.doAll(list)
		first := answersOfStages(s, list, 2)
		for _, n := range []int{1, 2, 8, 1, 16} {
			runtime.GOMAXPROCS(n)
			for range 5 {
				wantHall(t, "the hall", hallOf(t, s, list), m.hall)
			}
			want(t, "all answers", answersOfStages(s, list, 2), first)
		}
	}
}

func TestP1WorkersDoNotStay(t *testing.T) {
	s := bandStage(t, 3, 3)
	// In the end one worker has played what nobody has asked for, and one what has
	// come ahead of it.
	list := deeds("give 0, give 1, give 2, deliver 0, deliver 0, deliver 0, work 2")
	before := runtime.NumGoroutine()
	for range 200 {
		hallOf(t, s, list)
		wantScript(t, s, "give 1\ndeliver 0", "ok\nok\n")
		wantNoneAfter(t, s, []impl.Deed{{}}, impl.ErrInvalid)
	}
	// A goroutine may still be there for a moment when all have seen that it is done.
	for range 100 {
		if runtime.NumGoroutine() <= before {
			return
		}
		time.Sleep(10 * time.Millisecond)
	}
	t.Errorf("there are %d goroutines more", runtime.NumGoroutine()-before)
}

func TestP1WorkersAreJoined(t *testing.T) {
	// Where only one goroutine runs at a time, those that nobody waits for are left
	// behind a call.
	defer runtime.GOMAXPROCS(runtime.GOMAXPROCS(1))
	s := bandStage(t, 3, 3)
	list := deeds("give 0, give 1, deliver 0, deliver 0")
	left := 0
	before := runtime.NumGoroutine()
	for range 100 {
		hallOf(t, s, list)
		if runtime.NumGoroutine() > before {
			left++
		}
	}
	if left > 50 {
		t.Errorf("in %d of 100 calls goroutines are left", left)
	}
}

// spareStage has lists that lie in the middle of their memory, so that they have
// unused capacity.
func spareStage() (impl.Stage, func() string, func()) {
	score, degrees, instruments, events := spareScore()
	written := func() string { return writtenDown(degrees, instruments, events) }
	spoil := func() {
		overwrite(degrees)
		overwriteInstruments(instruments)
		overwriteEvents(events)
	}
	return impl.Stage{Score: score, Voices: 2, Blocks: 3, Workers: 2}, written, spoil
}

func overwriteBytes(data []byte) {
	data = data[:cap(data)]
	for i := range data {
		data[i] = 77
	}
}

func overwriteDeeds(list []impl.Deed) {
	list = list[:cap(list)]
	for i := range list {
		list[i] = impl.Deed{Kind: -77}
	}
}

func TestP1StagesShareNoMemory(t *testing.T) {
	text := rounds(1) + ", sync, " + round + ", crash, give 0, give 1, deliver 0, deliver 0, work 1, spoil 0 3, give 1"
	memory := append(deeds("sync, sync"), append(deeds(text), deeds("crash, crash, crash")...)...)
	list := memory[2 : len(memory)-3]
	s, written, spoil := spareStage()
	want(t, "valid", impl.ValidStage(s), true)
	before := []string{written(), writtenDown(memory)}
	first, _, code := impl.HallAfter(s, list)
	want(t, "HallAfter", code, impl.OK)
	second, _, _ := impl.HallAfter(s, list)
	sound, _ := impl.SoundOf(s)
	samples, _ := impl.SamplesAfter(s, list)
	file, _ := impl.FileAfter(s, list, impl.SfBits)
	plan, _ := impl.FinishDeeds(s, list)
	again := []any{second, slices.Clone(sound), slices.Clone(samples), slices.Clone(file), slices.Clone(plan)}
	kept := writtenDown(again...)
	impl.RunScript(s, linesOfDeeds(text))
	impl.RefusedDeed(s, list)
	want(t, "the arguments", fmt.Sprint([]string{written(), writtenDown(memory)}), fmt.Sprint(before))
	want(t, "the first one", writtenDown(first), writtenDown(second))
	wantListsAlone(t, first)
	overwrite(sound)
	overwrite(samples)
	overwriteBytes(file)
	overwriteDeeds(plan)
	want(t, "the arguments behind", fmt.Sprint([]string{written(), writtenDown(memory)}), fmt.Sprint(before))
	want(t, "the second one", writtenDown(again...), kept)
	spoil()
	overwriteDeeds(memory)
	want(t, "behind the arguments", writtenDown(again...), kept)
}

// wantListsAlone overwrites one list of a hall after the other.
func wantListsAlone(t *testing.T, h impl.Hall) {
	t.Helper()
	told := func() []string { return []string{writtenDown(h.Done), writtenDown(h.Benches), writtenDown(h.Wire)} }
	for k, change := range []func(){
		func() {
			list := h.Done[:cap(h.Done)]
			for i := range list {
				list[i] = filled(-77)
			}
		},
		func() {
			list := h.Benches[:cap(h.Benches)]
			for i := range list {
				list[i] = impl.Bench{Index: -77}
			}
		},
		func() {
			list := h.Wire[:cap(h.Wire)]
			for i := range list {
				list[i] = impl.Cargo{Index: -77}
			}
		},
	} {
		before := told()
		change()
		for j, text := range told() {
			if j != k && text != before[j] {
				t.Errorf("the lists %d and %d of a hall share memory", k, j)
			}
		}
	}
}

func TestP1FilesShareNoMemory(t *testing.T) {
	memory := []float32{91, 92, 0.5, -1, 0.25, 93, 94}
	for kind := int64(1); kind <= 2; kind++ {
		samples := memory[2:5]
		before := writtenDown(memory)
		first, second := wantFile(t, kind, 8000, samples), wantFile(t, kind, 8000, samples)
		overwriteBytes(first)
		want(t, "the samples", writtenDown(memory), before)
		bytesOfTests := append([]byte{91, 92}, append(slices.Clone(second), 93, 94)...)
		data := bytesOfTests[2 : len(bytesOfTests)-2]
		told := fmt.Sprint(bytesOfTests)
		_, _, read, code := impl.ReadSoundFile(data)
		want(t, "ReadSoundFile", code, impl.OK)
		torn, _ := impl.TornSamples(data)
		want(t, "the bytes", fmt.Sprint(bytesOfTests), told)
		overwrite(read)
		wantSamples(t, "TornSamples", torn, samples)
		overwriteBytes(bytesOfTests)
		wantSamples(t, "TornSamples", torn, samples)
		want(t, "the second one", string(second), string(toldFile(byte(kind), 8000, samples)))
	}
	// Lists without anything have capacity, too.
	data := wantFile(t, impl.SfBits, 8000, memory[:0])
	_ = append(data, 1)
	_, _, read, _ := impl.ReadSoundFile(data)
	_ = append(read, 1)
	wantSample(t, "the first place", memory[0], 91)
	want(t, "the check", data[12], toldFile(2, 8000, nil)[12])
}

func TestP1NilAndEmptyListsAreEquivalentForStages(t *testing.T) {
	none := impl.Stage{Score: firstScore(nil), Voices: 2, Blocks: 2, Workers: 2}
	none.Score.Events = nil
	empty := none
	empty.Score.Instruments, empty.Score.Events = []impl.Instrument{}, []impl.Event{}
	want(t, "answers", answersOfStages(none, nil, 1), answersOfStages(empty, []impl.Deed{}, 1))
	want(t, "answers", answersOfStages(none, deeds(rounds(2)), 2), answersOfStages(empty, deeds(rounds(2)), 2))
	want(t, "answers", answersOfStages(impl.Stage{}, nil, 1), answersOfStages(impl.Stage{Score: impl.Score{Instruments: []impl.Instrument{}, Events: []impl.Event{}}}, []impl.Deed{}, 1))
	want(t, "answers", answersOfFiles(1, 8000, nil, nil), answersOfFiles(1, 8000, []float32{}, []byte{}))
	want(t, "SoundOf", len(none.Score.Events), 0)
	sound, _ := impl.SoundOf(none)
	wantSamples(t, "SoundOf", sound, make([]float32, 32))
}

func TestP1ReturnsForLongArgumentsOfChapter10(t *testing.T) {
	wantNoFile(t, impl.SfBits, 8000, make([]float32, 1000000), impl.ErrLimit)
	wantNotRead(t, make([]byte, 1000000), impl.ErrLimit)
	wantNotTorn(t, make([]byte, 1000000), impl.ErrLimit)
	s := bandStage(t, 2, 2)
	wantNoneAfter(t, s, slices.Repeat(deeds("sync"), 300000), impl.ErrRange)
	wantNoneAfter(t, s, make([]impl.Deed, 300000), impl.ErrInvalid)
	for _, score := range []impl.Score{firstScore(nil, make([]impl.Event, 150000)...), firstScore(make([]impl.Instrument, 150000)), {Rate: 1, Tuning: tuning(440, 1200, make([]float32, 900000)...)}} {
		long := impl.Stage{Score: score, Voices: 1, Blocks: 1, Workers: 1}
		want(t, "ValidStage", impl.ValidStage(long), false)
		wantNoneAfter(t, long, deeds(round), impl.ErrInvalid)
		wantNoScript(t, long, "sync", impl.ErrInvalid)
	}
	for _, text := range []string{" ", "\n", "0", "give 0\n", "give 0 ", "\x00", "\xff"} {
		long := strings.Repeat(text, 1000000)
		wantNoDeed(t, long)
		wantNoDeed(t, "give "+long)
		wantNoDeed(t, "spoil 0 "+long)
		wantNoScript(t, s, long, impl.ErrRange)
		want(t, "CheckOf", impl.CheckOf(0, long[:1000000], impl.Block{}), toldCheck(0, long[:1000000], impl.Block{}))
	}
}
