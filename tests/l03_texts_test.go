package tests

import (
	"strings"
	"testing"

	"loop.example/g01173/impl"
)

const textOfString = "string 3f666666 3 1\n" +
	"filter 3 3eaaaaab 00000000 00000000 3f800000 80000000\n" +
	"filter 2 3f400000 3e800000 00000000 bf800000 00000000\n" +
	"3f800000 7fc00000 80000000\n"

func TestP6TextsOfStrings(t *testing.T) {
	x := withRing(newString(4.5, 0.25, 0.9), 1, 1, otherNaN, minusZero)
	x.Tune = allpassFor(0.5)
	x.Tune.S = [2]float32{1, minusZero}
	x.Damp.S[0] = -1
	want(t, "StringText", impl.StringText(x), textOfString)
	back, code := impl.ReadString(textOfString)
	want(t, "ReadString", code, impl.OK)
	wantString(t, "ReadString", back, x)
	want(t, "NewString", impl.StringText(newString(3, 0.5, 1)), "string 3f800000 2 0\nfilter 3 3eaaaaab 00000000 00000000 00000000 00000000\nfilter 2 3f000000 3f000000 00000000 00000000 00000000\n00000000 00000000\n")
}

func TestP6StringsAreReadFromTheirTexts(t *testing.T) {
	for _, x := range validStrings() {
		text := impl.StringText(x)
		back, code := impl.ReadString(text)
		want(t, "ReadString", code, impl.OK)
		wantString(t, "ReadString", back, x)
		want(t, "the text again", impl.StringText(back), text)
	}
	for _, x := range invalidStrings() {
		want(t, "StringText", impl.StringText(x), "")
	}
}

func wantNoReadString(t *testing.T, text string) {
	t.Helper()
	x, code := impl.ReadString(text)
	if code != impl.ErrSyntax {
		t.Errorf("ReadString %.300q: got %d, want %d", text, code, impl.ErrSyntax)
	}
	wantString(t, "with an error", x, impl.String{})
}

func TestP6TextsOfNoString(t *testing.T) {
	for i := range textOfString {
		wantNoReadString(t, textOfString[:i])
		wantNoReadString(t, textOfString[:i]+" "+textOfString[i:])
		wantNoReadString(t, textOfString[:i]+"\n"+textOfString[i:])
		wantNoReadString(t, textOfString[:i]+textOfString[i+1:])
		wantNoReadString(t, textOfString[:i]+"x"+textOfString[i+1:])
	}
	for _, text := range []string{
		"", "\n", "\n\n\n\n", "string", textOfString + "\n", textOfString + " ", textOfString + "x", textOfString + textOfString, " " + textOfString, "\n" + textOfString,
		strings.ReplaceAll(textOfString, "\n", "\r\n"), strings.ReplaceAll(textOfString, "\n", " "), strings.ReplaceAll(textOfString, " ", "\t"), strings.ToUpper(textOfString),
	} {
		wantNoReadString(t, text)
	}
	for _, c := range []struct {
		old  string
		news []string
	}{
		{"string", []string{"String", "STRING", "strings", "filter", "pipe", ""}},
		{"3f666666", []string{"3F666666", "7fc00000", "7f800000", "ff800000", "ffc00001", "3f66666", "3f6666666", ""}},
		{" 3 1\n", []string{" 4 1\n", " 2 1\n", " 0 1\n", " -3 1\n", " 03 1\n", " +3 1\n", " 3 3\n", " 3 -1\n", " 3 01\n", " 3 +1\n", " 3 1 \n", " 3 1.0\n", " 3 1e0\n", " 3 -0\n", " 3 00\n", " 3 9223372036854775808\n", " 3 18446744073709551617\n", " 3 \n", " 3\n", " 1\n", " 3 1 1\n", " 3 １\n", " 3.0 1\n", " three 1\n"}},
		{"filter 3", []string{"filter 2", "filter 1", "filter 4", "filter 5", "filter 0", "filter 6", "filter 03", "Filter 3", "filter"}},
		{"filter 2", []string{"filter 3", "filter 1", "filter 5", "filter +2"}},
		{"3eaaaaab", []string{"7fc00000", "7f800000", "3EAAAAAB"}},
		{"bf800000", []string{"7fc00000", "7f800000", "ffc00000"}},
		{"\n3f800000 7fc00000", []string{"\n3f800000 7fc00001", "\n3f800000 ffc00000", "\n3f800000 7FC00000", "\n3f800000  7fc00000", "\n7fc00000", "\n3f800000", "\n 3f800000 7fc00000", "\n3f800000 7fc00000 00000000"}},
	} {
		for _, word := range c.news {
			text := strings.Replace(textOfString, c.old, word, 1)
			if text == textOfString {
				t.Fatalf("%q is not found", c.old)
			}
			wantNoReadString(t, text)
		}
	}
	first, rest, _ := strings.Cut(textOfString, "\n")
	tune, rest, _ := strings.Cut(rest, "\n")
	damp, samples, _ := strings.Cut(rest, "\n")
	wantNoReadString(t, strings.Join([]string{first, damp, tune, samples}, "\n"))
	wantNoReadString(t, strings.Join([]string{first, tune, samples}, "\n"))
	wantNoReadString(t, strings.Join([]string{tune, damp, first, samples}, "\n"))
}

func TestP6TextsOfLongStrings(t *testing.T) {
	for n := impl.MaxRing - 1; n <= impl.MaxRing+1; n++ {
		text := strings.Replace(textOfString, " 3 1", " "+pick(n == 1023, "1023", pick(n == 1024, "1024", "1025"))+" 1", 1)
		text = strings.Replace(text, "3f800000 7fc00000 80000000\n", strings.Repeat("3f800000 ", n-1)+"7f800000\n", 1)
		if n > impl.MaxRing {
			wantNoReadString(t, text)
			continue
		}
		x, code := impl.ReadString(text)
		want(t, "ReadString", code, impl.OK)
		want(t, "samples", len(x.Loop.Samples), n)
		want(t, "StringText", impl.StringText(x), text)
	}
}
