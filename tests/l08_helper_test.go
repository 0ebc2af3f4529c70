package tests

import (
	"math"
	"math/big"
	"math/rand/v2"
	"regexp"
	"slices"
	"strconv"
	"strings"
	"testing"

	"loop.example/g01173/impl"
)

// wantScore goes by the bits of all numbers.
func wantScore(t *testing.T, name string, got, expected impl.Score) {
	t.Helper()
	if g, e := writtenDown(got), writtenDown(expected); g != e {
		t.Errorf("%s: got %+v, want %+v", name, got, expected)
	}
}

func wantCompiled(t *testing.T, text string, expected impl.Score) {
	t.Helper()
	s, line, code := impl.CompileScore(text)
	if line != 0 || code != impl.OK {
		t.Errorf("CompileScore %q: got line %d, code %d", text, line, code)
	}
	wantScore(t, strconv.Quote(text), s, expected)
	want(t, strconv.Quote(text)+", ValidScore", impl.ValidScore(s), true)
}

func wantFault(t *testing.T, text string, line, code int64) {
	t.Helper()
	s, l, c := impl.CompileScore(text)
	if l != line || c != code {
		t.Errorf("CompileScore %q: got line %d, code %d, want %d, %d", text, l, c, line, code)
	}
	wantScore(t, strconv.Quote(text), s, impl.Score{})
}

// compiled is for texts that are right.
func compiled(t *testing.T, text string) impl.Score {
	t.Helper()
	s, _, code := impl.CompileScore(text)
	want(t, strconv.Quote(text), code, impl.OK)
	return s
}

func start(at, note, instrument, key int64, force float32) impl.Event {
	return impl.Event{At: at, Kind: impl.EvStart, Note: note, Instrument: instrument, Key: key, Force: force}
}

func stop(at, note int64) impl.Event {
	return impl.Event{At: at, Kind: impl.EvStop, Note: note}
}

// firstScore is what a text makes that sets neither rate nor tuning.
func firstScore(instruments []impl.Instrument, events ...impl.Event) impl.Score {
	return impl.Score{Rate: 44100, Tuning: equalTuning(440, 12), Instruments: instruments, Events: events}
}

func oneString() []impl.Instrument {
	return []impl.Instrument{{Name: "a", Kind: impl.IkString}}
}

// note has both events of one.
type note struct {
	from, to, instrument, key int64
	force                     float32
}

// eventsOf has the events of notes in the order of the document, written down
// once more: it takes the least of those that are left, one after the other.
func eventsOf(notes []note) []impl.Event {
	var left, sorted []impl.Event
	for i, n := range notes {
		left = append(left, stop(n.to, int64(i)), start(n.from, int64(i), n.instrument, n.key, n.force))
	}
	for len(left) > 0 {
		least := 0
		for i := range left {
			if isBefore(notes, left[i], left[least]) {
				least = i
			}
		}
		sorted = append(sorted, left[least])
		left = slices.Delete(left, least, least+1)
	}
	return sorted
}

func isBefore(notes []note, a, b impl.Event) bool {
	endsEarlier := func(e impl.Event) bool { return e.Kind == impl.EvStop && notes[e.Note].from < e.At }
	if a.At != b.At {
		return a.At < b.At
	}
	if endsEarlier(a) != endsEarlier(b) {
		return endsEarlier(a)
	}
	if a.Note != b.Note {
		return a.Note < b.Note
	}
	return a.Kind == impl.EvStart && b.Kind == impl.EvStop
}

// notesOf is for valid scores.
func notesOf(s impl.Score) []note {
	notes := make([]note, len(s.Events)/2)
	for _, e := range s.Events {
		n := &notes[e.Note]
		if e.Kind == impl.EvStart {
			n.from, n.instrument, n.key, n.force = e.At, e.Instrument, e.Key, e.Force
		} else {
			n.to = e.At
		}
	}
	return notes
}

// randomNotes has many events at one time.
func randomNotes(r *rand.Rand, count int, instruments int64) []note {
	var notes []note
	within := []int64{3, 10, 1000}[r.IntN(3)]
	for range count {
		n := note{from: r.Int64N(within), instrument: r.Int64N(instruments), key: r.Int64N(2*impl.MaxKey+1) - impl.MaxKey}
		n.to = n.from + []int64{0, 0, 1, r.Int64N(within)}[r.IntN(4)]
		n.force = []float32{1, 0, minusZero, -0.5, leastSample, greatest}[r.IntN(6)]
		notes = append(notes, n)
	}
	return notes
}

func mixedInstruments() []impl.Instrument {
	return []impl.Instrument{
		{Name: "a", Kind: impl.IkString, A: 0.5, B: 1, C: below(1)}, {Name: "b", Kind: impl.IkPipe, A: below(1), B: 1, C: 1}, {Name: "abcdefghijkl", Kind: impl.IkBow, A: below(1), B: 1, C: greatest},
		{Name: "aa", Kind: impl.IkString, A: minusZero, B: minusZero, C: minusZero}, {Name: "z", Kind: impl.IkPipe, A: minusZero, B: minusZero, C: minusZero}, {Name: "ab", Kind: impl.IkBow, C: -greatest},
	}
}

// songScore has all kinds of events at one time.
func songScore() impl.Score {
	return impl.Score{
		Rate: 22050, Tuning: equalTuning(432, 19), Instruments: mixedInstruments()[:3],
		Events: []impl.Event{
			start(0, 0, 0, 3, 0.5), start(0, 1, 1, -4, minusZero), stop(0, 1), start(7, 4, 2, 0, 0),
			stop(10, 0), stop(10, 4), start(10, 2, 2, 100, 1), stop(10, 2), start(10, 3, 0, -100, -1), stop(99, 3),
		},
	}
}

// fullScore has as many instruments and notes as there may be.
func fullScore() impl.Score {
	s := impl.Score{Rate: 1000000, Tuning: justTuning(), Instruments: mixedInstruments()}
	var notes []note
	for i := range int64(impl.MaxNotes) {
		notes = append(notes, note{from: i % 3, to: impl.MaxTime - i%2, instrument: i % impl.MaxInstruments, key: i, force: 1})
	}
	s.Events = eventsOf(notes)
	return s
}

func validScores() []impl.Score {
	list := []impl.Score{
		firstScore(nil), {Rate: 1, Tuning: tuning(1, 1, 0)}, {Rate: 1000000, Tuning: tuning(20000, 4800, 0)}, firstScore(mixedInstruments()), songScore(), fullScore(),
		firstScore(oneString(), start(impl.MaxTime, 0, 0, 0, 0), stop(impl.MaxTime, 0)), firstScore(oneString(), start(0, 0, 0, 0, 0), stop(impl.MaxTime, 0)),
	}
	random := newRandom()
	for i := range 80 {
		s := impl.Score{Rate: float32(1 + random.IntN(1000000)), Tuning: equalTuning(440, int64(1+i%12)), Instruments: mixedInstruments()[:1+i%impl.MaxInstruments]}
		s.Events = eventsOf(randomNotes(random, i%(impl.MaxNotes+1), int64(len(s.Instruments))))
		list = append(list, s)
	}
	return list
}

func copiedScore(s impl.Score) impl.Score {
	s.Tuning.Degrees = slices.Clone(s.Tuning.Degrees)
	s.Instruments = slices.Clone(s.Instruments)
	s.Events = slices.Clone(s.Events)
	return s
}

// scoreWith has one change to the song.
func scoreWith(change func(s *impl.Score)) impl.Score {
	s := songScore()
	change(&s)
	return s
}

var (
	noRates       = []float32{below(1), 0, minusZero, leastSample, -1, -44100, above(1000000), greatest, -greatest, infinite, -infinite, nan, otherNaN}
	noTimes       = []int64{-1, impl.MaxTime + 1, 1 << 32, -1 << 32, math.MaxInt64, math.MinInt64}
	noNumbers     = []int64{-1, 1 << 32, -1 << 32, math.MaxInt64, math.MinInt64}
	noKinds       = []int64{0, -1, 3, 4, 257, 1<<32 + 1, 1<<32 + 2, math.MaxInt64, math.MinInt64}
	noNames       = []string{"", "abcdefghijklm", "A", "aB", "a1", "1", "a b", " a", "a ", "a-b", "é", "aé", "a\n", "\x00", "`", "{", "a`", "a{", "@", "[", "\xff"}
	noFractions   = []string{"", "-", "--1", "+1", "1000000", "1234567", "-1000000", "00", "01", "-01", "000001", "1/", "/", "/2", "-/2", "1/1", "1/0", "1/3", "1/6", "1/1023", "1/1025", "1/2048", "1/4096", "1/02", "1/002", "1/-2", "1/+2", "1/ 2", "1 /2", " 1", "1 ", "1/2 ", "1/2/2", "1//2", "1/2/", "1/a", "a", "a/2", "1a", "1a/2", "1/2a", "0x1", "1e1", "1.5", "1_0", "1/1_6", "1-", "-1-", "1-1", "1/2-", "NaN", "\n1", "1\n", "1\x00", "１", "½", "1/1000000", "1/0000002", "1/10", "1/20", "1/100"}
	noWholes      = []string{"", "-1", "-0", "-", "+1", "1000000", "1234567", "00", "01", "000001", "0000000", "1/1", "1/2", "2/2", "1a", "a", "0x1", "1e1", "1.0", "1_0", "1\x00", "１", "1-"}
	noKeysInLines = []string{"", "-", "--1", "+1", "1000000", "-1000000", "00", "01", "-00", "-01", "1/2", "-1/2", "1a", "-a", "a", "0x1", "1_0", "1-"}
)

// invalidScores has scores that break one rule each.
func invalidScores() []impl.Score {
	list := []impl.Score{{}, {Instruments: []impl.Instrument{}, Events: []impl.Event{}}, {Rate: 44100}, {Tuning: equalTuning(440, 12)}}
	with := func(change func(s *impl.Score)) { list = append(list, scoreWith(change)) }
	for _, a := range noRates {
		with(func(s *impl.Score) { s.Rate = a })
	}
	for _, x := range invalidTunings() {
		with(func(s *impl.Score) { s.Tuning = x })
	}
	for _, x := range invalidInstruments() {
		with(func(s *impl.Score) { s.Instruments[0] = x })
		with(func(s *impl.Score) { s.Instruments[2] = x })
	}
	with(func(s *impl.Score) { s.Instruments[2].Name = "a" })
	with(func(s *impl.Score) { s.Instruments[1].Name = "a" })
	with(func(s *impl.Score) { s.Instruments[1] = s.Instruments[2] })
	with(func(s *impl.Score) {
		s.Instruments = append(mixedInstruments(), impl.Instrument{Name: "one", Kind: impl.IkString})
	})
	for _, change := range changesOfEvents() {
		with(func(s *impl.Score) { s.Events = change(s.Events) })
	}
	return list
}

// changesOfEvents break one rule each for the events of the song.
func changesOfEvents() []func(list []impl.Event) []impl.Event {
	var changes []func(list []impl.Event) []impl.Event
	with := func(i int, change func(e *impl.Event)) {
		changes = append(changes, func(list []impl.Event) []impl.Event { change(&list[i]); return list })
	}
	starts, stops := []int{0, 1, 3, 6, 8}, []int{2, 4, 5, 7, 9}
	for i := range 10 {
		for _, n := range noTimes {
			with(i, func(e *impl.Event) { e.At = n })
		}
		for _, n := range append(noNumbers, 5, 6, impl.MaxNotes-1, impl.MaxNotes) {
			with(i, func(e *impl.Event) { e.Note = n })
		}
		for _, n := range noKinds {
			with(i, func(e *impl.Event) { e.Kind = n })
		}
	}
	for _, i := range starts {
		for _, n := range append(noNumbers, 3, 4, impl.MaxInstruments) {
			with(i, func(e *impl.Event) { e.Instrument = n })
		}
		for _, n := range noKeys {
			with(i, func(e *impl.Event) { e.Key = n })
		}
		for _, a := range noForces {
			with(i, func(e *impl.Event) { e.Force = a })
		}
		with(i, func(e *impl.Event) { *e = stop(e.At, e.Note) })
	}
	for _, i := range stops {
		for _, n := range append(noNumbers, 1, 2) {
			with(i, func(e *impl.Event) { e.Instrument = n })
			with(i, func(e *impl.Event) { e.Key = n })
		}
		for _, a := range append(noForces, minusZero, leastSample, 1, -1) {
			with(i, func(e *impl.Event) { e.Force = a })
		}
		with(i, func(e *impl.Event) { *e = start(e.At, e.Note, 0, 0, 0) })
	}
	return changes
}

func invalidInstruments() []impl.Instrument {
	list := []impl.Instrument{{}}
	with := func(kind int64, change func(x *impl.Instrument)) {
		x := impl.Instrument{Name: "n", Kind: kind}
		change(&x)
		list = append(list, x)
	}
	never := []float32{-leastSample, -1, greatest, -greatest, infinite, -infinite, nan, otherNaN}
	for _, kind := range []int64{impl.IkString, impl.IkPipe, impl.IkBow} {
		for _, name := range noNames {
			with(kind, func(x *impl.Instrument) { x.Name = name })
		}
		for _, a := range append(never, above(1), 2) {
			with(kind, func(x *impl.Instrument) { x.A = a })
			with(kind, func(x *impl.Instrument) { x.B = a })
		}
		for _, a := range pick(kind == impl.IkString, []float32{above(0.5), 0.75, 1}, []float32{1}) {
			with(kind, func(x *impl.Instrument) { x.A = a })
		}
	}
	for _, kind := range []int64{0, -1, 4, 5, 257, 1<<32 + 1, math.MaxInt64, math.MinInt64} {
		with(kind, func(x *impl.Instrument) {})
	}
	for _, a := range append(never, 1, above(1), 2) {
		with(impl.IkString, func(x *impl.Instrument) { x.C = a })
	}
	for _, a := range append(never, leastSample, 0.5, below(1), above(1), 2) {
		with(impl.IkPipe, func(x *impl.Instrument) { x.C = a })
	}
	for _, a := range noForces {
		with(impl.IkBow, func(x *impl.Instrument) { x.C = a })
	}
	return list
}

const (
	wholePattern    = `(?:0|[1-9][0-9]{0,5})`
	fractionPattern = `-?` + wholePattern + `(?:/(?:2|4|8|16|32|64|128|256|512|1024))?`
)

var isFraction = regexp.MustCompile(`^` + fractionPattern + `$`)

// fractionOf goes by rational numbers.
func fractionOf(text string) (float32, bool) {
	if !isFraction.MatchString(text) {
		return 0, false
	}
	exact, _ := new(big.Rat).SetString(text)
	a, isExact := exact.Float32()
	return a, isExact
}

// row is one of the table of the document.
type row struct {
	pattern *regexp.Regexp
	does    func(c *teller, words []string) int64
}

func newRow(pattern string, does func(c *teller, words []string) int64) row {
	pattern = strings.NewReplacer("N", wholePattern, "K", `-?`+wholePattern, "F", fractionPattern, "A", `[^ ]+`).Replace(pattern)
	return row{regexp.MustCompile(`^` + pattern + `$`), does}
}

var rows = []row{
	newRow("rate N", func(c *teller, words []string) int64 {
		n := wholeOf(words[1])
		return c.setting(n >= 1 && n <= 1000000, func() { c.score.Rate = float32(n) })
	}),
	newRow("tuning F N", func(c *teller, words []string) int64 {
		base, _ := fractionOf(words[1])
		x, code := impl.EqualTuning(base, wholeOf(words[2]))
		return c.setting(code == impl.OK, func() { c.score.Tuning = x })
	}),
	newRow("string A F F F", func(c *teller, words []string) int64 { return c.add(impl.IkString, words) }),
	newRow("pipe A F F (?:open|closed)", func(c *teller, words []string) int64 {
		words[4] = pick(words[4] == "open", "1", "0")
		return c.add(impl.IkPipe, words)
	}),
	newRow("bow A F F F", func(c *teller, words []string) int64 { return c.add(impl.IkBow, words) }),
	newRow("at N", func(c *teller, words []string) int64 { return c.goTo(wholeOf(words[1])) }),
	newRow("wait N", func(c *teller, words []string) int64 { return c.goTo(c.time + wholeOf(words[1])) }),
	newRow("play A K F N", (*teller).play),
}

// wholeOf is for words that stand for whole numbers.
func wholeOf(word string) int64 {
	n, _ := strconv.ParseInt(word, 10, 64)
	return n
}

// teller compiles as the document tells it; repeats are within each other as its
// own calls are.
type teller struct {
	lines []string
	score impl.Score
	notes []note
	time  int64
	at    int // the line that is compiled
}

func (c *teller) setting(isRight bool, set func()) int64 {
	if !isRight {
		return impl.ErrRange
	}
	if len(c.notes) > 0 {
		return impl.ErrState
	}
	set()
	return impl.OK
}

func (c *teller) add(kind int64, words []string) int64 {
	x := impl.Instrument{Name: words[1], Kind: kind}
	x.A, _ = fractionOf(words[2])
	x.B, _ = fractionOf(words[3])
	x.C, _ = fractionOf(words[4])
	if !impl.ValidInstrument(x) {
		return impl.ErrRange
	}
	for _, y := range c.score.Instruments {
		if y.Name == x.Name {
			return impl.ErrState
		}
	}
	if len(c.score.Instruments) >= 6 {
		return impl.ErrLimit
	}
	c.score.Instruments = append(c.score.Instruments, x)
	return impl.OK
}

func (c *teller) goTo(time int64) int64 {
	if time > 100000 {
		return impl.ErrRange
	}
	c.time = time
	return impl.OK
}

func (c *teller) play(words []string) int64 {
	n := note{from: c.time, to: c.time + wholeOf(words[4]), instrument: -1, key: wholeOf(words[2])}
	n.force, _ = fractionOf(words[3])
	if n.key < -100 || n.key > 100 || n.to > 100000 {
		return impl.ErrRange
	}
	for i, x := range c.score.Instruments {
		if x.Name == words[1] {
			n.instrument = int64(i)
		}
	}
	if n.instrument < 0 {
		return impl.ErrNotFound
	}
	if len(c.notes) >= 64 {
		return impl.ErrLimit
	}
	c.notes = append(c.notes, n)
	return impl.OK
}

var isRepeat = regexp.MustCompile(`^repeat ` + wholePattern + `$`)

// block compiles the lines from one on, up to the end that belongs to them, and
// returns its index.
func (c *teller) block(from, deep int) (int, int64) {
	for i := from; i < len(c.lines); i++ {
		c.at = i
		line := c.lines[i]
		if line == "end" && deep > 0 {
			return i, impl.OK
		}
		if line == "end" {
			return 0, impl.ErrState
		}
		var code int64
		if isRepeat.MatchString(line) {
			i, code = c.repeat(i, deep)
		} else {
			code = c.line(line)
		}
		if code != impl.OK {
			return 0, code
		}
	}
	c.at = len(c.lines)
	return len(c.lines), pick(deep > 0, int64(impl.ErrState), impl.OK)
}

func (c *teller) repeat(i, deep int) (int, int64) {
	times := wholeOf(strings.TrimPrefix(c.lines[i], "repeat "))
	if times < 1 || times > 16 {
		return 0, impl.ErrRange
	}
	if deep >= 3 {
		return 0, impl.ErrLimit
	}
	end := 0
	for range times {
		var code int64
		if end, code = c.block(i+1, deep+1); code != impl.OK {
			return 0, code
		}
	}
	return end, impl.OK
}

func (c *teller) line(line string) int64 {
	for _, r := range rows {
		if r.pattern.MatchString(line) {
			return r.does(c, strings.Split(line, " "))
		}
	}
	return impl.ErrSyntax
}

// scoreOf is CompileScore of the document, written down once more.
func scoreOf(text string) (impl.Score, int64, int64) {
	c := teller{score: firstScore(nil)}
	if text != "" {
		c.lines = strings.Split(strings.TrimSuffix(text, "\n"), "\n")
	}
	if len(text) > 4000 || len(c.lines) > 200 {
		return impl.Score{}, 0, impl.ErrRange
	}
	if _, code := c.block(0, 0); code != impl.OK {
		return impl.Score{}, int64(c.at), code
	}
	c.score.Events = eventsOf(c.notes)
	return c.score, 0, impl.OK
}
