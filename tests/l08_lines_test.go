package tests

import (
	"fmt"
	"strings"
	"testing"

	"loop.example/g01173/impl"
)

const (
	oneLine   = "string a 0 0 0\n"
	sixLines  = "string a 0 0 0\nstring b 0 0 0\npipe c 0 0 open\npipe d 0 0 closed\nbow e 0 0 0\nbow f 0 0 0\n"
	noteLines = oneLine + "play a 0 1 1\n"
	// fullLines make as many notes as there may be.
	fullLines = oneLine + "repeat 16\nplay a 0 1 1\nplay a 0 1 1\nplay a 0 1 1\nplay a 0 1 1\nend\n"
	lateLines = oneLine + "at 100000\n"
)

// wantFaultBehind has a line that is wrong behind others that are right, with
// others behind it that are wrong, too, but are never compiled.
func wantFaultBehind(t *testing.T, before, line string, code int64) {
	t.Helper()
	at := int64(strings.Count(before, "\n"))
	for _, behind := range []string{"", "\n", "\nwhat", "\nend\nend\n", "\nrepeat 2"} {
		// At the end of a text, nothing is no line.
		if line != "" || behind != "" {
			wantFault(t, before+line+behind, at, code)
		}
	}
}

func TestP15NoLines(t *testing.T) {
	wantCompiled(t, "", firstScore(nil))
	want(t, "the rate", firstScore(nil).Rate, 44100)
	wantFault(t, "\n", 0, impl.ErrSyntax)
	wantFault(t, "\n\n", 0, impl.ErrSyntax)
	wantFault(t, " ", 0, impl.ErrSyntax)
	wantFault(t, "rate 1\n\n", 1, impl.ErrSyntax)
	wantFault(t, "rate 1\n\nrate 2", 1, impl.ErrSyntax)
	wantFault(t, "\nrate 1", 0, impl.ErrSyntax)
	s := firstScore(nil)
	s.Rate = 1
	wantCompiled(t, "rate 1", s)
	wantCompiled(t, "rate 1\n", s)
	wantFault(t, "rate 1\r\n", 0, impl.ErrSyntax)
}

func TestP15LinesThatAreRight(t *testing.T) {
	wantCompiled(t, "rate 22050\ntuning 432 19\nstring a 1/2 1 255/256\npipe b 7/8 1/2 open\nbow abcdefghijkl 0 1/4 -999999/1024\npipe c 0 -0 closed\nat 10\nplay b -100 -1/2 0\nwait 5\nplay a 100 999999 99985\nplay abcdefghijkl -0 -0 1\nat 3\nplay c 7 1/1024 12\n", impl.Score{
		Rate: 22050, Tuning: equalTuning(432, 19),
		Instruments: []impl.Instrument{
			{Name: "a", Kind: impl.IkString, A: 0.5, B: 1, C: 0.99609375}, {Name: "b", Kind: impl.IkPipe, A: 0.875, B: 0.5, C: 1},
			{Name: "abcdefghijkl", Kind: impl.IkBow, B: 0.25, C: bitsOf(0xc47423f0)}, {Name: "c", Kind: impl.IkPipe},
		},
		Events: []impl.Event{
			start(3, 3, 3, 7, 0.0009765625), start(10, 0, 1, -100, -0.5), stop(10, 0), stop(15, 3), start(15, 1, 0, 100, 999999), start(15, 2, 2, 0, 0), stop(16, 2), stop(100000, 1),
		},
	})
	for text, rate := range map[string]float32{"rate 1": 1, "rate 9": 9, "rate 999999": 999999, "rate 100000": 100000, "rate 5\nrate 44101": 44101, "rate 44101\nrate 5": 5} {
		s := firstScore(nil)
		s.Rate = rate
		wantCompiled(t, text, s)
	}
	for text, x := range map[string]impl.Tuning{"tuning 1 1": equalTuning(1, 1), "tuning 20000 31": equalTuning(20000, 31), "tuning 4401/8 7": equalTuning(550.125, 7), "tuning 440 12\ntuning 5 2": equalTuning(5, 2)} {
		s := firstScore(nil)
		s.Tuning = x
		wantCompiled(t, text, s)
	}
	wantCompiled(t, sixLines, firstScore([]impl.Instrument{{Name: "a", Kind: 1}, {Name: "b", Kind: 1}, {Name: "c", Kind: 2, C: 1}, {Name: "d", Kind: 2}, {Name: "e", Kind: 3}, {Name: "f", Kind: 3}}))
}

func TestP15InstrumentsMayFollowNotes(t *testing.T) {
	s := firstScore([]impl.Instrument{{Name: "a", Kind: 1}, {Name: "b", Kind: 3, C: -1}}, start(0, 0, 0, 0, 1), start(0, 1, 1, 5, 1), stop(1, 0), stop(1, 1))
	wantCompiled(t, noteLines+"bow b 0 0 -1\nplay b 5 1 1", s)
}

func TestP15TimesInLines(t *testing.T) {
	for text, at := range map[string][2]int64{
		"": {0, 1}, "at 5\n": {5, 6}, "wait 5\n": {5, 6}, "at 5\nwait 0\n": {5, 6}, "at 5\nwait 7\n": {12, 13}, "wait 7\nat 5\n": {5, 6}, "wait 7\nwait 7\n": {14, 15}, "at 9\nat 0\n": {0, 1}, "at 99999\n": {99999, 100000}, "wait 99999\n": {99999, 100000},
		"at 99998\nwait 1\n": {99999, 100000}, "at 100000\nat 3\n": {3, 4}, "wait 50000\nwait 50000\nat 1\n": {1, 2},
	} {
		wantCompiled(t, oneLine+text+"play a 0 1 1\n", firstScore(oneString(), start(at[0], 0, 0, 0, 1), stop(at[1], 0)))
	}
	wantCompiled(t, oneLine+"play a 0 1 100000", firstScore(oneString(), start(0, 0, 0, 0, 1), stop(100000, 0)))
	wantCompiled(t, lateLines+"play a 0 1 0", firstScore(oneString(), start(100000, 0, 0, 0, 1), stop(100000, 0)))
	wantCompiled(t, lateLines+"wait 0", firstScore(oneString()))
	// A note lets no time pass.
	wantCompiled(t, oneLine+"play a 0 1 5\nplay a 1 1 3", firstScore(oneString(), start(0, 0, 0, 0, 1), start(0, 1, 0, 1, 1), stop(3, 1), stop(5, 0)))
	for _, line := range []string{"at 100001", "at 999999", "wait 100001", "wait 999999", "play a 0 1 100001", "play a 0 1 999999"} {
		wantFaultBehind(t, oneLine, line, impl.ErrRange)
	}
	for _, line := range []string{"wait 1", "wait 999999", "play a 0 1 1", "play a 0 1 999999", "at 100001"} {
		wantFaultBehind(t, lateLines, line, impl.ErrRange)
	}
	for _, line := range []string{"wait 50001", "play a 0 1 50001"} {
		wantFaultBehind(t, oneLine+"wait 49999\nwait 1\n", line, impl.ErrRange)
	}
}

func TestP15ErrorsOfEachLine(t *testing.T) {
	for _, c := range []struct {
		before, line string
		code         int64
	}{
		{"", "rate 0", impl.ErrRange}, {noteLines, "rate 5", impl.ErrState}, {noteLines, "rate 44100", impl.ErrState}, {noteLines, "rate 0", impl.ErrRange},
		{"", "tuning 440 0", impl.ErrRange}, {"", "tuning 440 32", impl.ErrRange}, {"", "tuning 440 999999", impl.ErrRange}, {"", "tuning 1023/1024 12", impl.ErrRange}, {"", "tuning 0 12", impl.ErrRange}, {"", "tuning -440 12", impl.ErrRange}, {"", "tuning 20001 12", impl.ErrRange},
		{"", "tuning 40001/2 12", impl.ErrRange}, {"", "tuning 0 0", impl.ErrRange}, {noteLines, "tuning 440 12", impl.ErrState}, {noteLines, "tuning 440 0", impl.ErrRange}, {noteLines, "tuning 0 12", impl.ErrRange},
		{"", "play a 0 1 1", impl.ErrNotFound}, {oneLine, "play b 0 1 1", impl.ErrNotFound}, {oneLine, "play aa 0 1 1", impl.ErrNotFound}, {oneLine, "play A 0 1 1", impl.ErrNotFound}, {oneLine, "play 1 0 1 1", impl.ErrNotFound}, {oneLine, "play abcdefghijklm 0 1 1", impl.ErrNotFound},
		{oneLine, "play a 101 1 1", impl.ErrRange}, {oneLine, "play a -101 1 1", impl.ErrRange}, {oneLine, "play a 999999 1 1", impl.ErrRange}, {oneLine, "play a -999999 1 1", impl.ErrRange}, {fullLines, "play a 0 1 1", impl.ErrLimit}, {fullLines, "play a 0 1 0", impl.ErrLimit},
		{"", "play a 101 1 1", impl.ErrRange}, {"", "play a 0 1 100001", impl.ErrRange}, {oneLine, "play b -101 1 1", impl.ErrRange}, {fullLines, "play a 101 1 1", impl.ErrRange}, {fullLines, "play a 0 1 100001", impl.ErrRange}, {fullLines, "play b 0 1 1", impl.ErrNotFound},
		{fullLines, "play b 101 1 100001", impl.ErrRange}, {lateLines, "play b 0 1 1", impl.ErrRange},
		{"", "repeat 0", impl.ErrRange}, {"", "repeat 17", impl.ErrRange}, {"", "repeat 999999", impl.ErrRange}, {"repeat 2\nrepeat 2\nrepeat 2\n", "repeat 1", impl.ErrLimit}, {"repeat 2\nrepeat 2\nrepeat 2\n", "repeat 0", impl.ErrRange}, {"repeat 2\nrepeat 2\nrepeat 2\n", "repeat 17", impl.ErrRange},
		{"", "end", impl.ErrState}, {"repeat 1\nend\n", "end", impl.ErrState}, {oneLine, "end", impl.ErrState}, {"repeat 1\nrepeat 1\nend\nend\n", "end", impl.ErrState},
	} {
		wantFaultBehind(t, c.before, c.line, c.code)
	}
}

func TestP15ErrorsOfInstrumentsInLines(t *testing.T) {
	for _, c := range []struct {
		word   string
		right  []string
		wrongs []string
	}{
		{"string", []string{"0 0 0", "1/2 1 1023/1024", "-0 -0 -0"}, []string{"513/1024 0 0", "1 0 0", "-1/1024 0 0", "0 1025/1024 0", "0 -1/1024 0", "0 2 0", "0 0 1", "0 0 -1/1024", "999999 999999 999999"}},
		{"pipe", []string{"0 0 open", "1023/1024 1 closed", "-0 -0 open"}, []string{"1 0 open", "-1/1024 0 closed", "0 1025/1024 open", "0 -1/1024 closed", "2 2 open"}},
		{"bow", []string{"0 0 0", "1023/1024 1 999999", "-0 -0 -999999"}, []string{"1 0 0", "-1/1024 0 0", "0 1025/1024 0", "0 -1/1024 0", "5 5 5"}},
	} {
		for _, right := range c.right {
			for _, name := range []string{"g", "abcdefghijkl", "open", "end"} {
				s := compiled(t, c.word+" "+name+" "+right)
				want(t, "instruments", len(s.Instruments), 1)
				want(t, "the name", s.Instruments[0].Name, name)
			}
			for _, name := range []string{"G", "abcdefghijklm", "g1", "1", "é", "g\t", "-", "g/h", "_"} {
				wantFaultBehind(t, "", c.word+" "+name+" "+right, impl.ErrRange)
				wantFaultBehind(t, sixLines, c.word+" "+name+" "+right, impl.ErrRange)
			}
			for _, name := range []string{"a", "b", "c", "d", "e", "f"} {
				wantFaultBehind(t, sixLines, c.word+" "+name+" "+right, impl.ErrState)
			}
			wantFaultBehind(t, oneLine, c.word+" a "+right, impl.ErrState)
			wantFaultBehind(t, "pipe a 0 0 open\n", c.word+" a "+right, impl.ErrState)
			wantFaultBehind(t, "bow a 0 0 0\n", c.word+" a "+right, impl.ErrState)
			wantFaultBehind(t, sixLines, c.word+" g "+right, impl.ErrLimit)
		}
		for _, wrong := range c.wrongs {
			wantFaultBehind(t, "", c.word+" a "+wrong, impl.ErrRange)
			wantFaultBehind(t, oneLine, c.word+" a "+wrong, impl.ErrRange)
			wantFaultBehind(t, sixLines, c.word+" a "+wrong, impl.ErrRange)
			wantFaultBehind(t, sixLines, c.word+" g "+wrong, impl.ErrRange)
		}
	}
}

// rightLines has one line for each row of the table, and what is ahead of it.
var rightLines = []struct{ before, line string }{
	{"", "rate 1"}, {"", "tuning 440 12"}, {"", "string a 0 0 0"}, {"", "pipe a 0 0 open"}, {"", "pipe a 0 0 closed"}, {"", "bow a 0 0 0"}, {"", "at 1"}, {"", "wait 1"}, {oneLine, "play a 0 1 1"}, {"", "repeat 1\nend"}, {"repeat 1\n", "end"},
}

func TestP15WordsInLines(t *testing.T) {
	for _, c := range rightLines {
		compiled(t, c.before+c.line)
		line, _, _ := strings.Cut(c.line, "\n")
		words := strings.Split(line, " ")
		for i := range words {
			fewer := append(words[:i:i], words[i+1:]...)
			wantFaultBehind(t, c.before, strings.Join(fewer, " "), impl.ErrSyntax)
			for _, word := range []string{"a", "0", "1", "end", ""} {
				more := append(append(words[:i+1:i+1], word), words[i+1:]...)
				wantFaultBehind(t, c.before, strings.Join(more, " "), impl.ErrSyntax)
			}
			twice := append(append(words[:i:i], words[i]), words[i:]...)
			wantFaultBehind(t, c.before, strings.Join(twice, " "), impl.ErrSyntax)
			// Without the word itself, but with the blanks around it:
			without := append(append(words[:i:i], ""), words[i+1:]...)
			wantFaultBehind(t, c.before, strings.Join(without, " "), impl.ErrSyntax)
		}
		for _, other := range []string{" " + line, line + " ", strings.Replace(line, " ", "\t", 1), strings.ToUpper(line[:1]) + line[1:], strings.ToUpper(words[0]) + line[len(words[0]):], "x" + line, line[1:], words[0] + "s" + line[len(words[0]):], words[0] + "\x00" + line[len(words[0]):]} {
			if other != line {
				wantFaultBehind(t, c.before, other, impl.ErrSyntax)
			}
		}
	}
	for _, line := range []string{"", " ", "  ", "what", "-", "1", "a 0 1 1", "stop a", "start a 0 1 1", "event", "name", "play", "NAME", "rate N", "string NAME F G H", "#", "// rate 1", "rate 1;", "\x00", "\xff", "pipe a 0 0 0", "pipe a 0 0 1", "pipe a 0 0 Open", "pipe a 0 0 half", "pipe a 0 0 ope", "pipe a 0 0 opens", "pipe a open 0 0", "string a 0 0 open", "bow a 0 0 closed"} {
		wantFaultBehind(t, "", line, impl.ErrSyntax)
		wantFaultBehind(t, sixLines, line, impl.ErrSyntax)
	}
}

func TestP15NumbersInLines(t *testing.T) {
	for _, word := range noWholes {
		for _, line := range []string{"rate %s", "tuning 440 %s", "at %s", "wait %s", "repeat %s", "play a 0 1 %s", "play b 0 1 %s", "play a 101 1 %s", "tuning 0 %s"} {
			wantFaultBehind(t, noteLines, fmt.Sprintf(line, word), impl.ErrSyntax)
		}
	}
	for _, word := range noKeysInLines {
		for _, line := range []string{"play a %s 1 1", "play b %s 1 1", "play a %s 1 999999"} {
			wantFaultBehind(t, fullLines, fmt.Sprintf(line, word), impl.ErrSyntax)
		}
	}
	for _, word := range noFractions {
		if strings.ContainsAny(word, "\n ") {
			continue
		}
		for _, line := range []string{"tuning %s 12", "tuning %s 0", "string a %s 0 0", "string g 0 %s 0", "string g 0 0 %s", "string g 0 %s 1", "pipe a %s 0 open", "pipe g 0 %s closed", "pipe G 0 %s closed", "bow a %s 0 0", "bow g 0 %s 0", "bow g 0 0 %s", "play a 0 %s 1", "play b 0 %s 1", "play a 101 %s 1"} {
			wantFaultBehind(t, sixLines, fmt.Sprintf(line, word), impl.ErrSyntax)
		}
	}
	for _, key := range []string{"0", "-0", "1", "-1", "99", "-99", "100", "-100"} {
		wantCompiled(t, oneLine+"play a "+key+" 1 1", firstScore(oneString(), start(0, 0, 0, wholeOf(key), 1), stop(1, 0)))
	}
	for _, force := range []string{"0", "-0", "-0/2", "1", "-1", "999999", "-999999/1024", "1/1024"} {
		a, _ := fractionOf(force)
		wantCompiled(t, oneLine+"play a 0 "+force+" 1", firstScore(oneString(), start(0, 0, 0, 0, a), stop(1, 0)))
	}
}

func TestP15TheFirstLineThatIsWrong(t *testing.T) {
	wantFault(t, "what\nrate 0\nend", 0, impl.ErrSyntax)
	wantFault(t, "rate 0\nwhat\nend", 0, impl.ErrRange)
	wantFault(t, "rate 1\nend\nwhat", 1, impl.ErrState)
	wantFault(t, "rate 1\nrate 2\nrate 3\nplay a 0 1 1\nwhat", 3, impl.ErrNotFound)
	wantFault(t, fullLines+"play a 0 1 1\nwhat", 7, impl.ErrLimit)
	wantFault(t, strings.Repeat("at 1\n", 199)+"what", 199, impl.ErrSyntax)
}

func TestP15LongScores(t *testing.T) {
	short := "tuning 19999/1024 31\n"
	for _, c := range []struct {
		text string
		is   bool
	}{
		{strings.Repeat("at 0\n", impl.MaxScoreLines), true}, {strings.Repeat("at 0\n", impl.MaxScoreLines-1) + "at 0", true}, {strings.Repeat("at 0\n", impl.MaxScoreLines) + "a", false}, {strings.Repeat("at 0\n", impl.MaxScoreLines+1), false}, {strings.Repeat("at 0\n", impl.MaxScoreLines) + "\n", false},
		{"what\n" + strings.Repeat("at 0\n", impl.MaxScoreLines), false}, {strings.Repeat("\n", impl.MaxScoreLines+1), false}, {strings.Repeat("\n", impl.MaxScoreText), false},
		{strings.Repeat(short, 190) + "at 1\nat 12", true}, {strings.Repeat(short, 190) + "at 1\nat 123", false},
		{strings.Repeat("x", impl.MaxScoreText+1), false}, {strings.Repeat("é", impl.MaxScoreText/2) + "a", false}, {strings.Repeat(" ", impl.MaxScoreText+1), false}, {"what\n" + strings.Repeat("x", impl.MaxScoreText-4), false},
	} {
		if c.is {
			compiled(t, c.text)
		} else {
			wantFault(t, c.text, 0, impl.ErrRange)
		}
	}
	full := strings.Repeat(short, 190) + "at 1234\n"
	want(t, "bytes", len(full), impl.MaxScoreText-2)
	compiled(t, full)
	wantFault(t, full+"ab", 191, impl.ErrSyntax)
	wantFault(t, full+"abc", 0, impl.ErrRange)
	full = strings.Repeat(short, 190) + "at 123456\n"
	want(t, "bytes", len(full), impl.MaxScoreText)
	wantFault(t, full, 190, impl.ErrRange)
	full = strings.Repeat(short, 190) + "at 1\nat 1\n"
	want(t, "bytes", len(full), impl.MaxScoreText)
	compiled(t, full)
	wantFault(t, full+"\n", 0, impl.ErrRange)
	wantFault(t, strings.Repeat("\n", impl.MaxScoreLines), 0, impl.ErrSyntax)
	wantFault(t, "at 0\n"+strings.Repeat("x", impl.MaxScoreText-5), 1, impl.ErrSyntax)
	wantFault(t, strings.Repeat("é", impl.MaxScoreText/2), 0, impl.ErrSyntax)
}
