package tests

import (
	"fmt"
	"math"
	"math/rand/v2"
	"slices"
	"strings"
	"testing"

	"loop.example/g01173/impl"
)

func wantScript(t *testing.T, s impl.Stage, text, expected string) {
	t.Helper()
	out, code := impl.RunScript(s, text)
	if out != expected || code != impl.OK {
		t.Errorf("RunScript %.2000q: got %q, %d, want %q", text, out, code, expected)
	}
}

func wantNoScript(t *testing.T, s impl.Stage, text string, expected int64) {
	t.Helper()
	out, code := impl.RunScript(s, text)
	if out != "" || code != expected {
		t.Errorf("RunScript %.80q: got %.80q, %d, want %d", text, out, code, expected)
	}
}

// namesOfCodes has those of the errors of deeds.
var namesOfCodes = map[int64]string{impl.OK: "ok", impl.ErrRange: "error range", impl.ErrLimit: "error limit", impl.ErrState: "error state"}

// answerTo is what the document tells, line by line.
func (m *told) answerTo(line string) string {
	if list := deeds(line); len(list) == 1 && toldDeedText(list[0]) == line && list[0].A <= 999 && list[0].B <= 999 && min(list[0].A, list[0].B) >= 0 {
		return namesOfCodes[m.do(list[0])]
	}
	if line == "played" {
		return fmt.Sprintf("%d %d", len(m.hall.Done), m.hall.Synced)
	}
	for i, b := range m.hall.Done {
		if line == fmt.Sprint("block ", i) {
			var words []string
			for _, a := range b {
				words = append(words, fmt.Sprintf("%08x", canonical(a)))
			}
			return strings.Join(words, " ")
		}
	}
	return "what"
}

func (m *told) answers(lines []string) string {
	out := ""
	for _, line := range lines {
		out += m.answerTo(line) + "\n"
	}
	return out
}

// linesOfDeeds has a deed in each line.
func linesOfDeeds(text string) string { return strings.ReplaceAll(text, ", ", "\n") + "\n" }

func TestP18Scripts(t *testing.T) {
	s := exampleStage(t)
	wantScript(t, s, "give 0\ndeliver 0\nwork 0\nspoil 0 3\ndeliver 0\nplayed\ngive 1\nblock 0\nx\n", "ok\nok\nok\nok\nok\n0 0\nerror range\nwhat\nwhat\n")
	m := newTold(t, s)
	first, second := impl.BlockText(m.blocks[0]), impl.BlockText(m.blocks[1])
	wantScript(t, s, linesOfDeeds(round)+"played\nblock 0\nblock 1\nsync\nplayed\n", "ok\nok\nok\nok\n1 0\n"+first+"\nwhat\nok\n1 1\n")
	wantScript(t, s, linesOfDeeds(rounds(2))+"block 1\nblock 0\nblock 2\nplayed\ngive 0\ncrash\nplayed\nblock 0", strings.Repeat("ok\n", 8)+second+"\n"+first+"\nwhat\n2 0\nerror state\nok\n0 0\nwhat\n")
	wantScript(t, s, strings.Repeat("give 0\n", 9)+"work 0\ndeliver 8\nspoil 0 32\nspoil 0 31\nspoil 8 0\nquit 0\nquit 1", strings.Repeat("ok\n", 8)+"error limit\nerror state\nerror range\nerror range\nerror state\nerror range\nok\nerror range\n")
}

func TestP18LinesOfScripts(t *testing.T) {
	s := exampleStage(t)
	wantScript(t, s, "", "")
	wantScript(t, s, "\n", "what\n")
	wantScript(t, s, "\n\n", "what\nwhat\n")
	wantScript(t, s, "\n\nsync\n\nplayed", "what\nwhat\nok\nwhat\n0 0\n")
	wantScript(t, s, "sync", "ok\n")
	wantScript(t, s, "sync\n", "ok\n")
	wantScript(t, s, "sync\n\n", "ok\nwhat\n")
	wantScript(t, s, "sync\r\n", "what\n")
	wantScript(t, s, "sync\x00", "what\n")
	wantScript(t, s, "sync\rcrash\n", "what\n")
	for _, line := range []string{
		" ", "  ", "sync ", " sync", "sync 0", "Sync", "SYNC", "syncs", "crash 0", "give", "give ", "give 0 ", "give  0", "give 0 0", "give 00", "give 01", "give +0", "give -0", "give -1", "give 1000", "give a", "spoil", "spoil 0", "spoil 0 ", "spoil 0 0 0", "spoil 0 00", "spoil 0 1000", "ok", "what", "error range", "halt", "0", "0 0", "\xff", "\t",
		"Played", "PLAYED", "played ", " played", "played 0", "played 0 0", "play", "playeds", "block", "block ", "blocks 0", "Block 0", " block 0", "\x00", "\ufeffplayed", "status",
	} {
		wantScript(t, s, line, "what\n")
		wantScript(t, s, line+"\nsync\n"+line+"\n", "what\nok\nwhat\n")
	}
}

func TestP18BlocksInScripts(t *testing.T) {
	s := bandStage(t, 12, 2)
	m := newTold(t, s)
	for played := range 13 {
		text, out := linesOfDeeds(rounds(played)), strings.Repeat("ok\n", 4*played)
		if played == 0 {
			text = ""
		}
		for _, n := range []int64{-2, -1, 0, 1, 2, 8, 9, 10, 11, 12, 13, 99, 999, 1000, 999999, 1000000, 1 << 32, math.MaxInt64} {
			answer := "what"
			if n >= 0 && n < int64(played) {
				answer = impl.BlockText(m.blocks[n])
			}
			wantScript(t, s, text+fmt.Sprint("block ", n), out+answer+"\n")
		}
		for _, line := range []string{"block", "block ", "block 0 ", "block  0", "block 00", "block 01", "block 001", "block 000000", "block +0", "block -0", "block 0 0", "block 0 1", "block 0x0", "block a", "block 0a", "block 1.0", "block1", "block0", "Block 0", "block\t0", "0 block", "block 0\r", "block ０", "block 18446744073709551616", "block 4294967296", "block 0block 0"} {
			wantScript(t, s, text+line, out+"what\n")
		}
	}
}

func TestP18LongScripts(t *testing.T) {
	s := exampleStage(t)
	for _, line := range []string{"", "sync", "played", "x", "give 5"} {
		answer := map[string]string{"": "what\n", "sync": "ok\n", "played": "0 0\n", "x": "what\n", "give 5": "error range\n"}[line]
		for _, end := range []string{"", "\n"} {
			if line == "" && end == "" {
				continue
			}
			wantScript(t, s, strings.Repeat(line+"\n", 99)+line+end, strings.Repeat(answer, 100))
			wantNoScript(t, s, strings.Repeat(line+"\n", 100)+line+end, impl.ErrRange)
		}
		wantNoScript(t, s, strings.Repeat(line+"\n", 2000), impl.ErrRange)
	}
	wantScript(t, s, strings.Repeat("\n", 100), strings.Repeat("what\n", 100))
	wantNoScript(t, s, strings.Repeat("\n", 101), impl.ErrRange)
	wantNoScript(t, s, strings.Repeat("\n", 100)+" ", impl.ErrRange)
	for _, line := range []string{"x", " ", "sync\n" + strings.Repeat("x", 200) + "\n", "give 0"} {
		text := strings.Repeat(line, 10001)
		if !strings.Contains(line, "\n") {
			wantScript(t, s, text[:10000], "what\n")
		}
		wantNoScript(t, s, text[:10001], impl.ErrRange)
		wantNoScript(t, s, text, impl.ErrRange)
	}
	wantScript(t, s, strings.Repeat("x", 9994)+"\nsync\n", "what\nok\n")
	wantNoScript(t, s, strings.Repeat("x", 9995)+"\nsync\n", impl.ErrRange)
	// All hundred lines may be answered by blocks.
	m := newTold(t, bandStage(t, 1, 1))
	wantScript(t, m.stage, linesOfDeeds(round)+strings.Repeat("block 0\n", 96), strings.Repeat("ok\n", 4)+strings.Repeat(impl.BlockText(m.blocks[0])+"\n", 96))
}

func TestP18ScriptsOfStagesThatAreNotValid(t *testing.T) {
	for _, s := range invalidStages(t) {
		for _, text := range []string{"", "sync\n", "what", strings.Repeat("\n", 101), strings.Repeat("x", 10001)} {
			wantNoScript(t, s, text, impl.ErrInvalid)
		}
	}
}

func lineOfScript(r *rand.Rand, s impl.Stage) string {
	switch r.IntN(9) {
	case 0:
		return "played"
	case 1:
		return "block " + []string{"0", "1", "2", "3", "11", "00", "-1", "", "0 0"}[r.IntN(9)]
	case 2:
		return []string{"", "x", "sync ", "give 00", "spoil 0", "deliver 1000", "crash", "sync"}[r.IntN(8)]
	}
	return toldDeedText(anyDeeds(r, s, 1)[0])
}

func TestP18RandomScripts(t *testing.T) {
	random := newRandom()
	for i := range 500 {
		s := anyStage(t, random)
		var lines []string
		if i%2 == 0 {
			for _, d := range busyDeeds(random, s)[:random.IntN(70)] {
				lines = append(lines, toldDeedText(d))
			}
		}
		for range random.IntN(30) {
			lines = slices.Insert(lines, random.IntN(len(lines)+1), lineOfScript(random, s))
		}
		// Of a last line without anything nothing is left.
		lines = append(lines, "played")
		text := strings.Join(lines, "\n") + pick(i%3 == 0, "\n", "")
		wantScript(t, s, text, newTold(t, s).answers(lines))
	}
}

func TestP18ScriptsGoOnAsDeeds(t *testing.T) {
	random := newRandom()
	for range 100 {
		s := anyStage(t, random)
		list := busyDeeds(random, s)[:random.IntN(90)]
		text := ""
		for _, d := range list {
			text += impl.DeedText(d) + "\n"
		}
		hall := hallOf(t, s, list)
		out, code := impl.RunScript(s, text+"played\n")
		want(t, "RunScript", code, impl.OK)
		lines := strings.Split(out, "\n")
		want(t, "played", lines[len(lines)-2], fmt.Sprintf("%d %d", len(hall.Done), hall.Synced))
		at, why, code := impl.RefusedDeed(s, list)
		if code == impl.OK {
			want(t, "the first one left out", lines[at], "error "+impl.CodeName(why))
		}
		first := slices.IndexFunc(lines, func(line string) bool { return strings.HasPrefix(line, "error") })
		want(t, "as RefusedDeed tells", first, pick(code == impl.OK, int(at), -1))
	}
}
