package tests

import (
	"fmt"
	"math/rand/v2"
	"slices"
	"strings"
	"testing"

	"loop.example/g01173/impl"
)

// wantWritten holds a repeat against its lines, written several times.
func wantWritten(t *testing.T, before, lines, behind string, times int) {
	t.Helper()
	written := before + strings.Repeat(lines, times) + behind
	wantCompiled(t, fmt.Sprintf("%srepeat %d\n%send\n%s", before, times, lines, behind), compiled(t, written))
}

func TestP15RepeatsAreTheirLinesWrittenSeveralTimes(t *testing.T) {
	for times := 1; times <= impl.MaxRepeat; times++ {
		wantWritten(t, oneLine, "play a 0 1 100\nwait 50\n", "", times)
		wantWritten(t, oneLine, "wait 7\nplay a 5 1/2 0\n", "play a -1 -1 3\n", times)
		wantWritten(t, oneLine, "at 10\nplay a 5 1/2 5\nwait 5\n", "play a -1 -1 3\n", times)
		wantWritten(t, "", "rate 7\ntuning 300 5\n", oneLine+"play a 0 1 1\n", times)
		wantWritten(t, oneLine, "", "play a 0 1 1\n", times)
		wantWritten(t, oneLine+"repeat 2\nwait 3\nend\n", "play a 1 1 1\nwait 1\n", "repeat 3\nplay a 2 1 5\nend\n", times)
	}
	wantCompiled(t, oneLine+"repeat 2\nrepeat 3\nplay a 1 1 2\nwait 10\nend\nplay a 2 1 2\nwait 100\nend\n", firstScore(oneString(), eventsOf([]note{
		{0, 2, 0, 1, 1}, {10, 12, 0, 1, 1}, {20, 22, 0, 1, 1}, {30, 32, 0, 2, 1}, {130, 132, 0, 1, 1}, {140, 142, 0, 1, 1}, {150, 152, 0, 1, 1}, {160, 162, 0, 2, 1},
	})...))
}

func TestP15EmptyRepeats(t *testing.T) {
	for _, text := range []string{
		"repeat 1\nend", "repeat 16\nend\n", "repeat 2\nend\nrepeat 3\nend\n", "repeat 16\nrepeat 16\nrepeat 16\nend\nend\nend\n", "repeat 2\nrepeat 2\nend\nrepeat 3\nend\nend\n", "repeat 2\nrepeat 2\nrepeat 2\nend\nrepeat 2\nend\nend\nrepeat 2\nrepeat 2\nend\nend\nend",
	} {
		wantCompiled(t, text, firstScore(nil))
	}
}

func TestP15RepeatsWithinEachOther(t *testing.T) {
	wantNotes(t, compiled(t, oneLine+"repeat 4\nrepeat 4\nrepeat 4\nplay a 0 1 1\nend\nend\nend\n"), impl.MaxNotes)
	wantNotes(t, compiled(t, oneLine+"repeat 16\nrepeat 2\nrepeat 2\nplay a 0 1 1\nend\nend\nend\n"), impl.MaxNotes)
	wantNotes(t, compiled(t, oneLine+"repeat 3\nplay a 0 1 1\nrepeat 2\nplay a 0 1 1\nrepeat 5\nplay a 0 1 1\nend\nplay a 0 1 1\nend\nplay a 0 1 1\nend\n"), 3*(1+2*(1+5+1)+1))
	wantFault(t, oneLine+"repeat 4\nrepeat 4\nrepeat 4\nplay a 0 1 1\nend\nend\nplay a 0 1 1\nend\n", 4, impl.ErrLimit)
	wantFault(t, oneLine+"repeat 5\nrepeat 13\nplay a 0 1 1\nend\nend\n", 3, impl.ErrLimit)
	wantFault(t, "repeat 1\nrepeat 1\nrepeat 1\nrepeat 1\nend\nend\nend\nend\n", 3, impl.ErrLimit)
	wantFault(t, "repeat 1\nrepeat 1\nrepeat 1\nend\nrepeat 1\nrepeat 1\n", 5, impl.ErrLimit)
	// Those that have ended do not count.
	wantCompiled(t, "repeat 1\nrepeat 1\nrepeat 1\nend\nrepeat 1\nend\nend\nrepeat 1\nrepeat 1\nend\nend\nend\n"+strings.Repeat("repeat 2\nend\n", 50), firstScore(nil))
	late := compiled(t, oneLine+"repeat 16\nrepeat 16\nrepeat 16\nwait 24\nend\nend\nend\nplay a 0 1 1\n")
	want(t, "the time", late.Events[0].At, 16*16*16*24)
	wantCompiled(t, strings.Repeat("repeat 16\n", 3)+strings.Repeat("at 0\n", 190)+strings.Repeat("end\n", 3), firstScore(nil))
}

func TestP15ErrorsOnlyWhenALineIsCompiledAgain(t *testing.T) {
	wantFault(t, "repeat 2\nstring a 0 0 0\nend\nwhat", 1, impl.ErrState)
	wantFault(t, "repeat 3\nwait 40000\nend\nwhat", 1, impl.ErrRange)
	wantFault(t, "repeat 3\nat 5\nwait 5\nend\nrepeat 3\nwait 1\nwait 40000\nend\nwhat", 6, impl.ErrRange)
	wantFault(t, oneLine+"repeat 2\nrate 5\nplay a 0 1 1\nend\nwhat", 2, impl.ErrState)
	wantFault(t, oneLine+"repeat 2\nat 0\ntuning 5 5\nplay a 0 1 1\nend\nwhat", 3, impl.ErrState)
	wantFault(t, oneLine+"repeat 16\nwait 1\nrepeat 5\nplay a 0 1 1\nend\nend\nwhat", 4, impl.ErrLimit)
	wantFault(t, oneLine+"repeat 2\nplay a 0 1 60000\nwait 40001\nend\nwhat", 2, impl.ErrRange)
	wantFault(t, "repeat 2\nrepeat 2\nend\nstring a 0 0 0\nend\n", 3, impl.ErrState)
	// What is compiled the first time tells its error first.
	wantFault(t, "repeat 2\nstring a 0 0 0\nwhat\nend", 2, impl.ErrSyntax)
	// A line that would be wrong a second time is right if it is compiled once.
	wantCompiled(t, "repeat 1\nstring a 0 0 0\nend", firstScore(oneString()))
}

func TestP15RepeatsThatDoNotEnd(t *testing.T) {
	for _, c := range []struct {
		text string
		line int64
	}{
		{"repeat 1", 1}, {"repeat 2\n", 1}, {"repeat 2\nwait 60000\n", 2}, {"repeat 2\nrepeat 1\nend", 3}, {"repeat 2\nrepeat 2\nend\n", 3}, {"repeat 2\nrepeat 2\nwait 30000\nend", 4}, {"repeat 1\nend\nrepeat 1", 3}, {"rate 5\nrepeat 1\nrepeat 1\nrepeat 1\nend\nend\n", 6}, {"repeat 1\nrepeat 1\nrepeat 1\n", 3},
		{strings.Repeat("at 0\n", 199) + "repeat 1\n", 200},
	} {
		wantFault(t, c.text, c.line, impl.ErrState)
	}
	// A wrong line tells its error before.
	wantFault(t, "repeat 1\nwhat", 1, impl.ErrSyntax)
	wantFault(t, "repeat 1\nend\nend", 2, impl.ErrState)
	wantFault(t, "repeat 0\nend\nend", 0, impl.ErrRange)
	wantFault(t, "repeat 2\nend\nend\nwhat", 2, impl.ErrState)
}

// randomLines returns lines with repeats, and the same lines without them, each
// written as often as it is compiled.
func randomLines(r *rand.Rand, deep int) (lines, written []string) {
	for range 1 + r.IntN(5) {
		if deep < impl.MaxDeep && r.IntN(3) == 0 {
			within, once := randomLines(r, deep+1)
			times := []int{1, 2, 3, 1 + r.IntN(impl.MaxRepeat)}[r.IntN(4)]
			lines = append(append(append(lines, fmt.Sprintf("repeat %d", times)), within...), "end")
			written = append(written, slices.Repeat(once, times)...)
			continue
		}
		line := randomLine(r)
		lines, written = append(lines, line), append(written, line)
	}
	return lines, written
}

func randomLine(r *rand.Rand) string {
	switch r.IntN(30) {
	case 0, 1, 2:
		return fmt.Sprintf("at %d", r.IntN(1000))
	case 3, 4, 5, 6, 7:
		return fmt.Sprintf("wait %d", r.IntN(100))
	case 8:
		return fmt.Sprintf("wait %d", r.IntN(50000))
	case 9:
		return "bow " + string(rune('b'+r.IntN(8))) + " 0 1 -1"
	case 10:
		return []string{"rate 5", "tuning 5 5", "play b 0 1 1", "string a 0 0 0", "repeat 17", "at 100001", "what", "play a 101 0 0"}[r.IntN(8)]
	}
	return fmt.Sprintf("play a %d %s %d", r.IntN(201)-100, []string{"1", "-1/2", "-0", "0", "3/1024"}[r.IntN(5)], []int{0, 1, 50, r.IntN(100)}[r.IntN(4)])
}

func TestP15AnyRepeatsAreTheirLinesWrittenSeveralTimes(t *testing.T) {
	random := newRandom()
	right, wrong := 0, 0
	for range 6000 {
		lines, written := randomLines(random, 0)
		text := oneLine + strings.Join(lines, "\n") + "\n"
		once := oneLine + strings.Join(written, "\n") + "\n"
		if len(once) > impl.MaxScoreText || len(written) >= impl.MaxScoreLines {
			continue
		}
		s, line, code := impl.CompileScore(once)
		if code == impl.OK {
			wantCompiled(t, text, s)
			right++
			continue
		}
		told, at, other := impl.CompileScore(text)
		wantScore(t, "the score", told, impl.Score{})
		want(t, text+": the code", other, code)
		want(t, text+": the line", strings.Split(text, "\n")[at], strings.Split(once, "\n")[line])
		wrong++
	}
	if right < 500 || wrong < 300 {
		t.Errorf("only %d texts are right, and %d wrong", right, wrong)
	}
}

func TestP15TextsAreCompiledAsTheDocumentTells(t *testing.T) {
	random := newRandom()
	codes := map[int64]int{}
	for range 20000 {
		lines, _ := randomLines(random, 0)
		if random.IntN(4) > 0 {
			lines = append([]string{"string a 1/4 1 1/2"}, lines...)
		}
		if random.IntN(3) == 0 {
			i := random.IntN(len(lines))
			lines[i] = alteredLine(random, lines[i])
		}
		text := strings.Join(lines, "\n") + []string{"", "\n", "\n\n"}[random.IntN(20)%3*random.IntN(2)]
		s, line, code := scoreOf(text)
		codes[code]++
		if code == impl.OK {
			wantCompiled(t, text, s)
		} else {
			wantFault(t, text, line, code)
		}
	}
	for _, code := range []int64{impl.OK, impl.ErrRange, impl.ErrLimit, impl.ErrState, impl.ErrSyntax, impl.ErrNotFound} {
		if codes[code] < 50 {
			t.Errorf("only %d texts with the code %d", codes[code], code)
		}
	}
}

// alteredLine may be right or wrong.
func alteredLine(r *rand.Rand, line string) string {
	words := strings.Split(line, " ")
	i := r.IntN(len(words))
	switch r.IntN(6) {
	case 0:
		words[i] = []string{"", "0", "1", "-1", "17", "101", "-101", "100001", "1000000", "01", "1/2", "1/3", "-", "a", "A", "open", "end"}[r.IntN(17)]
	case 1:
		words = append(words[:i:i], words[i+1:]...)
	case 2:
		words = append(words[:i:i], append([]string{"1"}, words[i:]...)...)
	case 3:
		return []string{"", "end", "repeat 2", "repeat 16", "rate 0", "rate 999999", "tuning 1/2 5", "tuning 20000 31", "string a 0 0 0", "pipe b 0 1 open", "pipe c 0 1 half", "bow d 1 0 0", "play a 0 1 100000", "play c 0 1 1", "at 100000", "wait 99999"}[r.IntN(16)]
	case 4:
		return line + " "
	default:
		return strings.Replace(line, "a", "b", 1)
	}
	return strings.Join(words, " ")
}
