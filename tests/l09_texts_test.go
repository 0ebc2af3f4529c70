package tests

import (
	"strings"
	"testing"

	"loop.example/g01173/impl"
)

// scoreOfTexts has notes of all instruments, the first three of which have voices
// in textOfPlayer.
const scoreOfTexts = "rate 4000\nbow d 1/4 1/4 3\nstring a 1/4 7/8 1/2\npipe b 1/4 1/2 open\nplay b 3 1/2 90\nwait 2\nplay d 0 -1/4 90\nplay a 7 1 2\nat 9\nplay d 5 1 20\n"

const textOfPlayer = "player 6 4 12\n" +
	"free\n" +
	"voice 2 1 2 gone 00000000\n" + textOfString +
	"voice 0 2 0 held 3f000000\n" + textOfAPipe +
	"free\n" +
	"voice 1 0 2 held be800000\n" + textOfBow

const textOfAPipe = "pipe open 3f666666 3f400000 bec00000\n" +
	"scatter 3e800000\n" +
	"filter 1 3f400000 3e800000 00000000 bf800000 00000000\n" +
	"2 1 00000000 3f000000\n" +
	"2 0 80000000 ff7fffff\n" +
	"1 0 00000001\n" +
	"1 0 3f800000\n"

func playerOfText(t *testing.T) impl.Player {
	t.Helper()
	p := impl.Player{Score: compiled(t, scoreOfTexts), Now: 6, Next: 4, Skipped: 12}
	x, _ := impl.ReadString(textOfString)
	y, _ := impl.ReadPipe(textOfAPipe)
	p.Voices = []impl.Voice{
		{Note: -1}, {Note: 2, Instrument: 1, Born: 2, Gone: true, String: x}, {Note: 0, Instrument: 2, Drive: 0.5, Pipe: y}, {Note: -1}, {Note: 1, Instrument: 0, Born: 2, Drive: -0.25, Bow: bowOfText()},
	}
	return p
}

func wantTextOfPlayer(t *testing.T, p impl.Player, text string) {
	t.Helper()
	want(t, "PlayerText", impl.PlayerText(p), text)
	q, code := impl.ReadPlayer(p.Score, text)
	want(t, "ReadPlayer", code, impl.OK)
	wantPlayer(t, "ReadPlayer", q, p)
}

func wantNoReadPlayer(t *testing.T, s impl.Score, text string, expected int64) {
	t.Helper()
	p, code := impl.ReadPlayer(s, text)
	if code != expected {
		t.Errorf("ReadPlayer %.400q: got %d, want %d", text, code, expected)
	}
	wantPlayer(t, "ReadPlayer, with an error", p, impl.Player{})
}

func TestP16TextsOfPlayers(t *testing.T) {
	p := playerOfText(t)
	wantValidPlayer(t, "the player of the text", p, true)
	wantTextOfPlayer(t, p, textOfPlayer)
	p.Voices = p.Voices[:1]
	wantTextOfPlayer(t, p, "player 6 4 12\nfree\n")
	p.Now, p.Next, p.Skipped = 0, 0, 0
	wantTextOfPlayer(t, p, "player 0 0 0\nfree\n")
	p.Now, p.Next, p.Skipped = 2*impl.MaxTime, 8, impl.MaxNotes
	wantTextOfPlayer(t, p, "player 200000 8 64\nfree\n")
	wantTextOfPlayer(t, newPlayer(firstScore(nil), 6), "player 0 0 0\nfree\nfree\nfree\nfree\nfree\nfree\n")
	for i, v := range playerOfText(t).Voices[1:] {
		p := playerOfText(t)
		p.Voices = p.Voices[1+i : 2+i]
		for _, drive := range []float32{0, minusZero, leastSample, greatest, -greatest} {
			for _, gone := range []bool{false, true} {
				if v.Note == -1 {
					continue
				}
				p.Voices[0].Drive, p.Voices[0].Gone = drive, gone
				_, bits, _ := strings.Cut(impl.FilterText(impl.Filter{Kind: impl.FkOnePole, C: [3]float32{drive}}), " 1 ")
				head := "player 6 4 12\nvoice " + pick(i == 0, "2 1 2", pick(i == 1, "0 2 0", "1 0 2")) + pick(gone, " gone ", " held ") + bits[:8] + "\n"
				wantTextOfPlayer(t, p, head+pick(i == 0, textOfString, pick(i == 1, textOfAPipe, textOfBow)))
			}
		}
	}
	for _, p := range invalidPlayers(t) {
		want(t, "PlayerText", impl.PlayerText(p), "")
	}
}

func TestP16PlayersAreReadFromTheirTexts(t *testing.T) {
	random := newRandom()
	for range 300 {
		p := anyPlayer(t, random)
		wantTextOfPlayer(t, p, impl.PlayerText(p))
		want(t, "one text each", strings.Count(impl.PlayerText(p), "voice ")+strings.Count(impl.PlayerText(p), "free\n"), len(p.Voices))
	}
	for _, at := range []int64{0, 1, 9, 100, 3000} {
		for n := int64(1); n <= impl.MaxVoices; n++ {
			p, _ := impl.PlayerAt(bandScore(t), n, at)
			wantTextOfPlayer(t, p, impl.PlayerText(p))
		}
	}
}

func TestP16TextsOfNoPlayer(t *testing.T) {
	s := compiled(t, scoreOfTexts)
	wantNo := func(text string) {
		t.Helper()
		wantNoReadPlayer(t, s, text, impl.ErrSyntax)
	}
	for i := range textOfPlayer {
		if text := textOfPlayer[:i]; !strings.HasSuffix(text, "\n") || strings.Count(text, "\n") == 1 {
			wantNo(text)
		}
		wantNo(textOfPlayer[:i] + " " + textOfPlayer[i:])
		wantNo(textOfPlayer[:i] + "\n" + textOfPlayer[i:])
		wantNo(textOfPlayer[:i] + "x" + textOfPlayer[i+1:])
		if text := textOfPlayer[:i] + textOfPlayer[i+1:]; text != strings.Replace(textOfPlayer, "12\n", "1\n", 1) && text != strings.Replace(textOfPlayer, "12\n", "2\n", 1) {
			wantNo(text)
		}
	}
	free := "player 6 4 12\nfree\n"
	for _, text := range []string{
		"", " ", "\n", "\n\n", "player", "player ", "player\n", "player 6 4 12", "player 6 4 12\n", "player 6 4 12\n\n", "free\n", "free\n" + free, free + "\n", " " + free, "\n" + free, free + " ", free + "free", free + "free ", free + "free \n", free + "freer\n", free + " free\n", free + "FREE\n", free + "x\n",
		free + "voice\n", free + "voice \n", free + "voice -1 0 0 held 00000000\n", free + "voice 2 1 2 gone 00000000\n", free + free, free[:len(free)-1], strings.TrimSuffix(textOfPlayer, "\n"), textOfPlayer + "\n", textOfPlayer + " ", textOfPlayer + textOfPlayer,
		free + textOfString, free + textOfAPipe, free + textOfBow, free + "voice 2 1 2 gone 00000000\nfree\n" + textOfString, textOfString, "player 6 4 12\n" + textOfString,
		strings.ReplaceAll(textOfPlayer, "\n", "\r\n"), strings.ReplaceAll(textOfPlayer, "\n", " "), strings.ReplaceAll(textOfPlayer, " ", "\t"), strings.ReplaceAll(textOfPlayer, " ", "  "), strings.ToUpper(textOfPlayer), "\ufeff" + free,
	} {
		wantNo(text)
	}
	lines := strings.SplitAfter(textOfPlayer, "\n")
	// Rings of a section, or of a bow, may change their places.
	isRing := func(i int) bool { return lines[i][1] == ' ' }
	for i, line := range lines[:len(lines)-1] {
		rest := strings.Join(lines[i+1:], "")
		if line != "free\n" {
			wantNo(strings.Join(lines[:i], "") + rest)
			wantNo(strings.Join(lines[:i+1], "") + line + rest)
		}
		if i > 0 && line != "free\n" && !(isRing(i) && isRing(i-1)) {
			wantNo(strings.Join(lines[:i-1], "") + line + lines[i-1] + rest)
		}
	}
}

func TestP16WordsOfTextsOfPlayers(t *testing.T) {
	s := compiled(t, scoreOfTexts)
	for _, c := range []struct {
		old  string
		news []string
	}{
		{"player 6 4 12\n", []string{
			"player 06 4 12\n", "player 6 04 12\n", "player 6 4 012\n", "player +6 4 12\n", "player 6 +4 12\n", "player 6 4 +12\n", "player -6 4 12\n", "player 6 -4 12\n", "player 6 4 -12\n", "player 6 4 -0\n", "player 6 4\n", "player 6 4 12 0\n", "player 6 4 \n", "player  6 4 12\n", "Player 6 4 12\n", "players 6 4 12\n",
			"player 2 4 12\n", "player 10 4 12\n", "player 6 3 12\n", "player 6 5 12\n", "player 6 0 12\n", "player 6 4 -1\n", "player 6 4 65\n", "player 4 3 65\n", "player 200001 8 12\n", "player 0 0 12\n", "player 2 1 12\n", "player 6.0 4 12\n", "player 6 4 1e1\n", "player 0x6 4 12\n", "player 6 4 1_2\n", "player ６ 4 12\n",
			"player 9223372036854775808 4 12\n", "player 6 9223372036854775808 12\n", "player 6 4 9223372036854775808\n", "player 18446744073709551622 4 12\n", "player 6 18446744073709551620 12\n", "player 6 4 18446744073709551628\n", "player -9223372036854775809 4 12\n", "player 9223372036854775807 8 12\n", "player 99999999999999999999999999 4 12\n",
		}},
		{"voice 2 1 2 gone 00000000\n", []string{
			"voice 02 1 2 gone 00000000\n", "voice 2 01 2 gone 00000000\n", "voice 2 1 02 gone 00000000\n", "voice +2 1 2 gone 00000000\n", "voice 2 1 2 Gone 00000000\n", "voice 2 1 2 gone  00000000\n", "voice 2 1 2 gon 00000000\n", "voice 2 1 2 00000000\n", "voice 2 1 2 gone\n", "voice 2 1 2 gone \n", "voice 2 1 2 gone 00000000 \n", "voice 2 1 2 true 00000000\n", "voice 2 1 2  00000000\n",
			"voice 2 1 2 gone 7f800000\n", "voice 2 1 2 gone ff800000\n", "voice 2 1 2 gone 7fc00000\n", "voice 2 1 2 gone 7fc00001\n", "voice 2 1 2 gone 0000000\n", "voice 2 1 2 gone 000000000\n", "voice 2 1 2 gone 0000000g\n", "voice 2 1 2 gone 3F800000\n", "voice 2 1 2 gone 0\n", "voice 2 1 2 held 3f80000A\n",
			"voice 0 1 2 gone 00000000\n", "voice 1 1 2 gone 00000000\n", "voice 3 1 2 gone 00000000\n", "voice 4 1 2 gone 00000000\n", "voice -1 1 2 gone 00000000\n", "voice -2 1 2 gone 00000000\n", "voice 2 0 2 gone 00000000\n", "voice 2 2 2 gone 00000000\n", "voice 2 3 2 gone 00000000\n", "voice 2 1 1 gone 00000000\n", "voice 2 1 3 gone 00000000\n", "voice 2 1 -0 gone 00000000\n",
			"voice 18446744073709551618 1 2 gone 00000000\n", "voice 2 18446744073709551617 2 gone 00000000\n", "voice 2 1 18446744073709551618 gone 00000000\n", "voice 9223372036854775808 1 2 gone 00000000\n", "free\n", "Voice 2 1 2 gone 00000000\n", "voices 2 1 2 gone 00000000\n", "voice\n", "", "voice 2 1 2 gone 00000000\nfree\n", "voice 2 1 2 gone 00000000\n\n",
		}},
		{textOfString, []string{textOfAPipe, textOfBow, "", textOfString + textOfString, textOfString + textOfAPipe, "\n", textOfJet, textOfString[:len(textOfString)-1], strings.Replace(textOfString, "7fc00000", "7FC00000", 1), strings.Replace(textOfString, "7fc00000", "7fc00001", 1)}},
		{textOfAPipe, []string{textOfString, textOfBow, "", textOfAPipe + textOfAPipe, strings.Replace(textOfAPipe, "ff7fffff", "ff800000", 1), strings.Replace(textOfAPipe, "pipe open", "pipe OPEN", 1)}},
		{textOfBow, []string{textOfString, textOfAPipe, textOfJet, "", textOfBow + textOfBow, strings.Replace(textOfBow, "ff7fffff", "7fc00000", 1), strings.Replace(textOfBow, "\n3 2 ", "\n3 02 ", 1)}},
		// Two voices of one note.
		{"voice 1 0 2 held be800000\n" + textOfBow, []string{"voice 2 1 2 gone 00000000\n" + textOfString, "voice 0 2 0 held 3f000000\n" + textOfAPipe}},
		// A voice that has not been born.
		{"voice 1 0 2 held be800000\n", []string{"voice 3 0 9 held be800000\n"}},
	} {
		for _, word := range c.news {
			text := strings.Replace(textOfPlayer, c.old, word, 1)
			if text == textOfPlayer {
				t.Fatalf("%q is not found", c.old)
			}
			wantNoReadPlayer(t, s, text, impl.ErrSyntax)
		}
	}
}

func TestP16TextsOfManyVoices(t *testing.T) {
	s := compiled(t, scoreOfTexts)
	for n := range 10 {
		text := "player 6 4 0\n" + strings.Repeat("free\n", n)
		p, code := impl.ReadPlayer(s, text)
		want(t, "ReadPlayer", code, pick[int64](n >= 1 && n <= 6, impl.OK, impl.ErrSyntax))
		want(t, "ReadPlayer, its voices", len(p.Voices), pick(code == impl.OK, n, 0))
	}
	wantTextOfPlayer(t, trio(t), impl.PlayerText(trio(t)))
	full := textOfPlayer + "free\n"
	_, code := impl.ReadPlayer(s, full)
	want(t, "six voices", code, impl.OK)
	wantNoReadPlayer(t, s, full+"free\n", impl.ErrSyntax)
	wantNoReadPlayer(t, s, strings.Replace(full, "free\n", "free\nfree\n", 1), impl.ErrSyntax)
}

func TestP16TextsOfPlayersOfOtherScores(t *testing.T) {
	s := compiled(t, scoreOfTexts)
	for _, change := range []func(s *impl.Score){
		func(s *impl.Score) { s.Events[0].Instrument = 1 },
		func(s *impl.Score) {
			s.Instruments = []impl.Instrument{s.Instruments[0], s.Instruments[2], s.Instruments[1]}
		},
		func(s *impl.Score) { s.Events = nil },
		func(s *impl.Score) { s.Events[0].At = 1 },
		func(s *impl.Score) { s.Events[3].At = 6 },
		func(s *impl.Score) { s.Events[4].At, s.Events[4].Note, s.Events[5].Note = 5, 3, 3 },
	} {
		other := copiedScore(s)
		change(&other)
		want(t, "valid", impl.ValidScore(other), true)
		wantNoReadPlayer(t, other, textOfPlayer, impl.ErrSyntax)
	}
	// What a text does not tell may be another one.
	other := copiedScore(s)
	other.Rate, other.Tuning, other.Instruments[0].C = 1, justTuning(), 1
	p, code := impl.ReadPlayer(other, textOfPlayer)
	want(t, "another rate", code, impl.OK)
	wantScore(t, "another rate", p.Score, other)
	for _, x := range invalidScores() {
		wantNoReadPlayer(t, x, textOfPlayer, impl.ErrInvalid)
		wantNoReadPlayer(t, x, "", impl.ErrInvalid)
		wantNoReadPlayer(t, x, strings.Repeat("x", impl.MaxPlayerText+1), impl.ErrInvalid)
	}
}

// longPlayer has a text of MaxPlayerText bytes or so, as it has pipes of three
// sections.
func longPlayer(t *testing.T, lengths ...[]int64) impl.Player {
	t.Helper()
	var notes []note
	for range lengths {
		notes = append(notes, note{to: 9})
	}
	p := impl.Player{Score: firstScore([]impl.Instrument{{Name: "a", Kind: impl.IkPipe}}, eventsOf(notes)...), Now: 5, Next: int64(len(lengths))}
	for i, list := range lengths {
		p.Voices = append(p.Voices, impl.Voice{Note: int64(i), Pipe: newPipe(list, []float32{0.5, 0.5}, true, 0.5, 1)})
	}
	wantValidPlayer(t, "the long one", p, true)
	return p
}

func TestP16LongTextsOfPlayers(t *testing.T) {
	most := []int64{impl.MaxRing, impl.MaxRing, impl.MaxRing}
	// Each sample has nine bytes, and each one of a section is in both rings. The
	// place where a ring begins makes up for the rest.
	p := longPlayer(t, most, most, most, []int64{impl.MaxRing, 800, 1})
	for int64(len(impl.PlayerText(p)))+18 <= impl.MaxPlayerText {
		n := len(p.Voices[3].Pipe.Right[2].Samples) + 1
		p.Voices[3].Pipe.Right[2].Samples = make([]float32, n)
		p.Voices[3].Pipe.Left[2].Samples = make([]float32, n)
	}
	for _, r := range []*impl.Ring{&p.Voices[0].Pipe.Right[0], &p.Voices[0].Pipe.Left[0], &p.Voices[0].Pipe.Right[1], &p.Voices[0].Pipe.Left[1], &p.Voices[0].Pipe.Right[2], &p.Voices[0].Pipe.Left[2]} {
		missing := impl.MaxPlayerText - len(impl.PlayerText(p))
		r.At = []int64{0, 10, 100, 1000}[min(missing, 3)]
	}
	want(t, "bytes", len(impl.PlayerText(p)), 200000)
	wantTextOfPlayer(t, p, impl.PlayerText(p))
	for _, change := range []func(p *impl.Player){
		func(p *impl.Player) { p.Skipped = 10 },
		func(p *impl.Player) { p.Voices = append(p.Voices, impl.FreeVoice()) },
		func(p *impl.Player) { *p = longPlayer(t, most, most, most, most, most, most) },
	} {
		q := copiedPlayer(p)
		change(&q)
		text := impl.PlayerText(q)
		if len(text) <= impl.MaxPlayerText {
			t.Errorf("the text has only %d bytes", len(text))
		}
		wantNoReadPlayer(t, q.Score, text, impl.ErrRange)
	}
	s := compiled(t, scoreOfTexts)
	for _, text := range []string{"x", " ", "\n", "free\n", "voice ", "player 0 0 0\n"} {
		text = strings.Repeat(text, impl.MaxPlayerText+1)
		wantNoReadPlayer(t, s, text[:200000], impl.ErrSyntax)
		wantNoReadPlayer(t, s, text[:200001], impl.ErrRange)
	}
}
