package tests

import (
	"strings"
	"testing"

	"loop.example/g01173/impl"
)

func wantDeed(t *testing.T, d impl.Deed, text string) {
	t.Helper()
	want(t, text+": ValidDeed", impl.ValidDeed(d), true)
	want(t, "DeedText", impl.DeedText(d), text)
	read, code := impl.ReadDeed(text)
	want(t, text+": ReadDeed", code, impl.OK)
	want(t, text+": ReadDeed", read, d)
}

func wantNoDeed(t *testing.T, text string) {
	t.Helper()
	d, code := impl.ReadDeed(text)
	if code != impl.ErrSyntax || d != (impl.Deed{}) {
		t.Errorf("ReadDeed %.80q: got %v, %d", text, d, code)
	}
}

func TestP18TextsOfDeeds(t *testing.T) {
	for _, c := range []struct {
		d    impl.Deed
		text string
	}{
		{impl.Deed{Kind: 1}, "give 0"}, {impl.Deed{Kind: 2, A: 1}, "work 1"}, {impl.Deed{Kind: 3, A: 9}, "deliver 9"}, {impl.Deed{Kind: 4, A: 10}, "copy 10"}, {impl.Deed{Kind: 5, A: 100}, "drop 100"},
		{impl.Deed{Kind: 6}, "spoil 0 0"}, {impl.Deed{Kind: 6, A: 1, B: 31}, "spoil 1 31"}, {impl.Deed{Kind: 6, A: 999, B: 999}, "spoil 999 999"}, {impl.Deed{Kind: 7}, "sync"}, {impl.Deed{Kind: 8}, "crash"}, {impl.Deed{Kind: 9, A: 999}, "quit 999"},
	} {
		wantDeed(t, c.d, c.text)
	}
	numbers := []int64{0, 1, 2, 9, 10, 31, 32, 99, 100, 500, 998, 999}
	for kind, form := range wordsOfDeeds {
		for _, a := range numbers {
			for _, b := range numbers {
				d := impl.Deed{Kind: kind, A: a, B: b}
				if strings.Contains(form, "A") || a == 0 {
					if strings.Contains(form, "B") || b == 0 {
						wantDeed(t, d, toldDeedText(d))
						continue
					}
				}
				want(t, "ValidDeed", impl.ValidDeed(d), false)
			}
		}
	}
	for _, d := range invalidDeeds() {
		want(t, "ValidDeed", impl.ValidDeed(d), false)
		want(t, "DeedText", impl.DeedText(d), "")
	}
}

func TestP18TextsOfNoDeed(t *testing.T) {
	for _, text := range []string{"", " ", "\n", "0", "-1", "1 0 0", "what", "played", "block 0", "ok", "A", "give A", "stop 0", "a", "\x00", "\xff"} {
		wantNoDeed(t, text)
	}
	badNumbers := []string{"", " ", "-1", "-0", "+0", "+1", "00", "01", "001", "000", "1000", "0999", "9999", "10000", "1000000", "4294967296", "18446744073709551616", "1.0", "1e1", "0x1", "1_0", "a", "1a", "a1", "A", "B", "１", "½", "1\x00", "1\n", "\n1", "1\t", "\t1", "1,"}
	for _, form := range wordsOfDeeds {
		words := strings.Fields(form)
		word, count := words[0], len(words)-1
		right := word + strings.Repeat(" 1", count)
		wantDeed(t, deeds(right)[0], right)
		for n := range 5 {
			if n != count {
				wantNoDeed(t, word+strings.Repeat(" 1", n))
				wantNoDeed(t, word+strings.Repeat(" 0", n))
			}
		}
		for _, text := range []string{
			" " + right, right + " ", right + "\n", "\n" + right, right + "\r", right + "\x00", strings.ReplaceAll(right, " ", "  ") + " ", strings.ToUpper(right), strings.ToUpper(right[:1]) + right[1:], right[1:], word[:len(word)-1] + right[len(word):], "x" + right, word + "s" + right[len(word):], word + word + right[len(word):], right + " " + right, "\ufeff" + right, `"` + right + `"`,
		} {
			wantNoDeed(t, text)
		}
		if count == 0 {
			continue
		}
		wantNoDeed(t, word+"1")
		wantNoDeed(t, "1 "+word)
		wantNoDeed(t, strings.Replace(right, " ", "  ", 1))
		wantNoDeed(t, strings.Replace(right, " ", "\t", 1))
		for _, bad := range badNumbers {
			wantNoDeed(t, word+" "+bad+strings.Repeat(" 1", count-1))
			if count == 2 {
				wantNoDeed(t, word+" 1 "+bad)
				wantNoDeed(t, word+" 1  "+bad)
			}
		}
	}
}

func TestP18TextsOfRandomDeeds(t *testing.T) {
	random := newRandom()
	pieces := []string{"give", "work", "deliver", "copy", "drop", "spoil", "sync", "crash", "quit", " ", " ", " ", " ", "0", "1", "9", "31", "999", "-", "+", "\n", "x"}
	count := 0
	for range 200000 {
		text := ""
		for range 1 + random.IntN(6) {
			text += anyOf(random, pieces)
		}
		d, code := impl.ReadDeed(text)
		list := deeds(text)
		isDeed := len(list) == 1 && toldDeedText(list[0]) == text && list[0].A <= 999 && list[0].B <= 999 && min(list[0].A, list[0].B) >= 0
		want(t, text, code == impl.OK, isDeed)
		if isDeed {
			want(t, text, d, list[0])
			count++
		}
	}
	if count < 1000 {
		t.Errorf("only %d of the texts are those of deeds", count)
	}
}
