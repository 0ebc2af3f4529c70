package tests

import (
	"strings"
	"testing"

	"loop.example/g01173/impl"
)

const (
	textOfTuning      = "tuning 43dc0000 44960000 00000000 42c80000 44160000 4495ffff"
	textOfShortTuning = "tuning 3f800000 45960000 00000000"
)

func tuningOfText() impl.Tuning {
	return tuning(440, 1200, 0, 100, 600, below(1200))
}

func TestP13TextsOfTunings(t *testing.T) {
	wantText(t, tunings(), tuningOfText(), textOfTuning)
	wantText(t, tunings(), tuning(1, 4800, 0), textOfShortTuning)
	wantText(t, tunings(), tuning(20000, 1, 0, leastSample, mostSub, leastNormal), "tuning 469c4000 3f800000 00000000 00000001 007fffff 00800000")
	wantText(t, tunings(), justTuning(), "tuning 4382d014 44960000 00000000 42df7677 434be8f6 439dd218 43c12827 43f905c4 44138e51 442f7d1e 444b6bec 445d16f4 447e6629 44880899")
}

func TestP13TuningsAreReadFromTheirTexts(t *testing.T) {
	for _, x := range validTunings() {
		wantText(t, tunings(), x, impl.TuningText(x))
		want(t, "words", strings.Count(impl.TuningText(x), " "), 2+len(x.Degrees))
	}
	for _, x := range invalidTunings() {
		want(t, "TuningText", impl.TuningText(x), "")
	}
}

func TestP13TextsOfTuningsThatAreNotValid(t *testing.T) {
	for _, x := range invalidTunings() {
		words := []string{"tuning"}
		for _, a := range append([]float32{x.Base, x.Octave}, x.Degrees...) {
			// Chapter 1 has the texts of samples.
			words = append(words, impl.BlockText(filled(a))[:8])
		}
		wantNoRead(t, tunings(), strings.Join(words, " "))
		wantNoRead(t, tunings(), strings.Join(words, " ")+" ")
	}
}

func TestP13TextsOfNoTuning(t *testing.T) {
	wantNoOtherText(t, tunings(), textOfShortTuning)
	for i, c := range textOfTuning {
		wantNoRead(t, tunings(), textOfTuning[:i]+textOfTuning[i+1:])
		wantNoRead(t, tunings(), textOfTuning[:i]+"x"+textOfTuning[i+1:])
		wantNoRead(t, tunings(), textOfTuning[:i]+" "+textOfTuning[i:])
		if c >= 'a' && c <= 'f' {
			wantNoRead(t, tunings(), textOfTuning[:i]+string(c-'a'+'A')+textOfTuning[i+1:])
		}
		// A text that ends behind a degree is that of a tuning with fewer ones.
		if _, code := impl.ReadTuning(textOfTuning[:i]); code == impl.OK {
			want(t, "the end of a degree", i >= len(textOfShortTuning) && c == ' ', true)
		}
	}
	for _, text := range []string{"tuning 43dc0000", "tuning 43dc0000 44960000", "tuning 43dc0000 44960000 ", "tuning ", "tuning  ", "43dc0000 44960000 00000000", textOfTuning + "\n", textOfTuning + " 44960000", textOfTuning + " " + textOfTuning, textOfTuning + " 00000000", textOfBow, textOfRoom, "filter 1 3f800000 00000000 00000000 00000000 00000000"} {
		wantNoRead(t, tunings(), text)
	}
	wantNoRead(t, rooms(), textOfTuning)
	wantNoRead(t, bows(), textOfTuning)
}

func TestP13TextsOfAlmostATuning(t *testing.T) {
	wantNoAlmost(t, tunings(), textOfTuning, []almost{
		{"tuning", []string{"Tuning", "TUNING", "tunings", "bow", "room", "", " tuning", "tuning ", "tu ning", "tunin", "tuning\n"}},
		{" 43dc0000", []string{"", " ", " 43DC0000", " 3f7fffff", " 00000000", " bf800000", " c3dc0000", " 469c4001", " 7f7fffff", " 7f800000", " ff800000", " 7fc00000", " ffc00001", " 43dc000", " 43dc00000", "  43dc0000", " 43dc0000 43dc0000", "\n43dc0000", "\t43dc0000", " +43dc000", " 0x43dc00", " 440"}},
		{" 44960000", []string{"", " ", " 44960001 44960000", " 3f7fffff", " 00000000", " 45960001", " 7f800000", " ff800000", " 7fc00000", " ffc00000", " c4960000", " 4496000", " 449600000", " 4495ffff", " 44160000", "\n44960000"}},
		{" 00000000", []string{"", " ", " 80000000", " 00000001", " 80000001", " 3f800000", " bf800000", " 7fc00000", " 7f800000", " 0", " 00000000 00000000", " 00000000 80000000", " 0000000O"}},
		{" 42c80000", []string{" 00000000", " 80000000", " c2c80000", " 44160000", " 44160001", " 44960000", " 7fc00000", " 7f800000", " ff800000", " 42C80000", " 42c80000 42c80000", " 42c80000 42c7ffff", "  42c80000", "\n42c80000", " 100"}},
		{" 4495ffff", []string{" 44960000", " 44960001", " 44160000", " 4415ffff", " 42c80000", " 7f800000", " ff800000", " 7fc00000", " 4495FFFF", " 4495fff", " 4495ffff ", " 4495ffff 4495ffff", " 4495ffff 44960000"}},
	})
	// Some other numbers are those of a valid tuning.
	for old, other := range map[string]string{" 43dc0000": " 3f800000", " 44960000": " 45960000", " 42c80000": " 00000001", " 44160000": " 42c80001", " 4495ffff": " 44160001"} {
		text := strings.Replace(textOfTuning, old, other, 1)
		x, code := impl.ReadTuning(text)
		want(t, text, code, impl.OK)
		want(t, "TuningText", impl.TuningText(x), text)
	}
}

func TestP13TextsOfLongTunings(t *testing.T) {
	text := textOfShortTuning
	for n := 1; n <= 2*impl.MaxDegrees; n++ {
		if n > impl.MaxDegrees {
			wantNoRead(t, tunings(), text)
		} else {
			x, code := impl.ReadTuning(text)
			want(t, "ReadTuning", code, impl.OK)
			want(t, "degrees", len(x.Degrees), n)
			want(t, "TuningText", impl.TuningText(x), text)
		}
		text += " " + impl.BlockText(filled(float32(n)))[:8]
	}
}
