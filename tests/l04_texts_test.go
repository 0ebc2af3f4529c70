package tests

import (
	"strconv"
	"strings"
	"testing"

	"loop.example/g01173/impl"
)

const (
	textOfPipe = "pipe open 3f666666 3f400000 bec00000\n" +
		"scatter 3f000000 80000000\n" +
		"filter 1 3f400000 3e800000 00000000 bf800000 00000000\n" +
		"2 1 3f800000 80000000\n" +
		"2 0 00000000 00000001\n" +
		"1 0 c0000000\n" +
		"1 0 00000000\n" +
		"3 2 00000000 3f000000 ff7fffff\n" +
		"3 1 00800000 00000000 be800000\n"
	textOfShortPipe = "pipe closed 3f800000 3f400000 bec00000\nscatter\nfilter 1 3f800000 00000000 00000000 00000000 00000000\n1 0 00000000\n1 0 00000000\n"
)

func pipeOfText() impl.Pipe {
	x := newPipe([]int64{2, 1, 3}, []float32{0.5, minusZero}, true, 0.25, 0.9)
	x.End.S[0] = -1
	x.Right = []impl.Ring{{Samples: []float32{1, minusZero}, At: 1}, {Samples: []float32{-2}}, {Samples: []float32{0, 0.5, -greatest}, At: 2}}
	x.Left = []impl.Ring{{Samples: []float32{0, leastSample}}, {Samples: []float32{0}}, {Samples: []float32{leastNormal, 0, -0.25}, At: 1}}
	return x
}

func TestP8TextsOfPipes(t *testing.T) {
	want(t, "PipeText", impl.PipeText(pipeOfText()), textOfPipe)
	back, code := impl.ReadPipe(textOfPipe)
	want(t, "ReadPipe", code, impl.OK)
	wantPipe(t, "ReadPipe", back, pipeOfText())
	short := newPipe([]int64{1}, nil, false, 0, 1)
	want(t, "PipeText", impl.PipeText(short), textOfShortPipe)
	back, code = impl.ReadPipe(textOfShortPipe)
	want(t, "ReadPipe", code, impl.OK)
	wantPipe(t, "ReadPipe", back, short)
}

func TestP8PipesAreReadFromTheirTexts(t *testing.T) {
	for _, x := range validPipes() {
		text := impl.PipeText(x)
		back, code := impl.ReadPipe(text)
		want(t, "ReadPipe", code, impl.OK)
		wantPipe(t, "ReadPipe", back, x)
		want(t, "the text again", impl.PipeText(back), text)
	}
	for _, x := range invalidPipes() {
		want(t, "PipeText", impl.PipeText(x), "")
	}
}

func wantNoReadPipe(t *testing.T, text string) {
	t.Helper()
	x, code := impl.ReadPipe(text)
	if code != impl.ErrSyntax {
		t.Errorf("ReadPipe %.400q: got %d, want %d", text, code, impl.ErrSyntax)
	}
	wantPipe(t, "with an error", x, impl.Pipe{})
}

func TestP8TextsOfNoPipe(t *testing.T) {
	for _, text := range []string{textOfPipe, textOfShortPipe} {
		for i := range text {
			wantNoReadPipe(t, text[:i])
			wantNoReadPipe(t, text[:i]+" "+text[i:])
			wantNoReadPipe(t, text[:i]+"\n"+text[i:])
			wantNoReadPipe(t, text[:i]+text[i+1:])
			wantNoReadPipe(t, text[:i]+"x"+text[i+1:])
		}
		for _, other := range []string{
			"", "\n", "\n\n\n\n\n", "pipe", text + "\n", text + " ", text + "x", text + text, " " + text, "\n" + text,
			strings.ReplaceAll(text, "\n", "\r\n"), strings.ReplaceAll(text, "\n", " "), strings.ReplaceAll(text, " ", "\t"), strings.ToUpper(text),
		} {
			wantNoReadPipe(t, other)
		}
		lines := strings.SplitAfter(text, "\n")
		for i := range len(lines) - 1 {
			rest := strings.Join(lines[i+1:], "")
			wantNoReadPipe(t, strings.Join(lines[:i], "")+rest)
			wantNoReadPipe(t, strings.Join(lines[:i+1], "")+lines[i]+rest)
			if i > 0 && lines[i] != lines[i-1] && (text == textOfShortPipe || i < 4) {
				wantNoReadPipe(t, strings.Join(lines[:i-1], "")+lines[i]+lines[i-1]+rest)
			}
		}
	}
}

func TestP8TextsOfAlmostAPipe(t *testing.T) {
	for _, c := range []struct {
		old  string
		news []string
	}{
		{"pipe", []string{"Pipe", "PIPE", "pipes", "string", "bow", ""}},
		{"open", []string{"Open", "shut", "Closed", "close", "true", ""}},
		{"pipe open ", []string{"pipe ", "open pipe ", "pipe open open ", "pipe  open "}},
		{"3f666666", []string{"3F666666", "7fc00000", "7f800000", "ff800000", "ffc00001", "3f66666", "3f6666666", "", "3f666666 3f666666"}},
		{"3f400000 bec00000", []string{"7f800000 bec00000", "3f400000 7fc00000", "3f400000 ff800000", "3f400000", "bec00000 bec0000g"}},
		{"scatter", []string{"Scatter", "scatters", "scatter ", "", "filter"}},
		{"3f000000 80000000\n", []string{"3f000000\n", "3f000000 80000000 00000000\n", "\n", "3f800001 80000000\n", "3f000000 bf800001\n", "7fc00000 80000000\n", "3f000000 7f800000\n", "3f000000 80000000 \n", "3f000000  80000000\n"}},
		{"filter 1", []string{"filter 2", "filter 3", "filter 4", "filter 5", "filter 0", "filter 6", "filter 01", "filter +1", "Filter 1", "filter"}},
		{"bf800000 00000000\n", []string{"7f800000 00000000\n", "7fc00000 00000000\n", "bf800000 00000001\n", "bf800000 80000000\n", "bf800000\n"}},
		{"\n2 1 ", []string{"\n3 1 ", "\n1 1 ", "\n1 0 ", "\n0 1 ", "\n-2 1 ", "\n02 1 ", "\n+2 1 ", "\n2 2 ", "\n2 -1 ", "\n2 01 ", "\n2 +1 ", "\n2 1.0 ", "\n2 1e0 ", "\n2 -0 ", "\n2 9223372036854775808 ", "\n2 18446744073709551617 ", "\n2  ", "\n2 ", "\n1 ", "\n2 1 1 ", "\n2 １ ", "\n2.0 1 ", "\ntwo 1 ", "\n 2 1 "}},
		{"\n2 0 ", []string{"\n3 0 ", "\n1 0 ", "\n02 0 ", "\n+2 0 ", "\n2 2 ", "\n2 -1 ", "\n2 00 ", "\n2 +0 ", "\n2 -0 ", "\n2 ", "\n"}},
		{"2 1 3f800000 80000000\n", []string{"1 0 3f800000\n", "3 1 3f800000 80000000 00000000\n", "2 1\n", "2 1 \n", "2\n", "\n", "2 1 7f800000 80000000\n", "2 1 3f800000 ff800000\n", "2 1 3f800000 7fc00000\n", "2 1 3f800000 80000000 \n", "2 1 3f800000 8000000\n"}},
		{"1 0 00000000\n3", []string{"1 0 7f800000\n3", "1 0 7fc00000\n3", "2 0 00000000 00000000\n3", "0 0\n3", "0 0 \n3", "1 1 00000000\n3"}},
		{"be800000\n", []string{"BE800000\n", "7f800000\n", "be800000 be800000\n", "\n", "be800000"}},
	} {
		for _, word := range c.news {
			text := strings.Replace(textOfPipe, c.old, word, 1)
			if text == textOfPipe {
				t.Fatalf("%q is not found", c.old)
			}
			wantNoReadPipe(t, text)
		}
	}
	for _, c := range []struct{ old, word string }{{"scatter", "scatter "}, {"scatter", "scatter 00000000"}, {"scatter\n", ""}, {"closed", "open "}, {"1 0 00000000\n", "0 0\n"}, {"1 0 00000000\n", "0 0 \n"}, {"1 0 00000000\n1 0 00000000\n", "0 0\n0 0\n"}} {
		wantNoReadPipe(t, strings.Replace(textOfShortPipe, c.old, c.word, 1))
	}
}

func TestP8TextsOfPipesWithManySections(t *testing.T) {
	for n := range impl.MaxSections + 2 {
		for m := range impl.MaxSections + 2 {
			text := strings.Replace(textOfShortPipe, "scatter", "scatter"+strings.Repeat(" 00000000", m), 1)
			text = strings.Replace(text, "1 0 00000000\n1 0 00000000\n", strings.Repeat("1 0 00000000\n1 0 00000000\n", n), 1)
			if n >= 1 && n <= impl.MaxSections && m == n-1 {
				x, code := impl.ReadPipe(text)
				want(t, "ReadPipe", code, impl.OK)
				want(t, "sections", len(x.Right), n)
				continue
			}
			wantNoReadPipe(t, text)
		}
	}
}

func TestP8TextsOfLongPipes(t *testing.T) {
	for n := impl.MaxRing - 1; n <= impl.MaxRing+1; n++ {
		for _, at := range []int{0, 10, n - 1, n} {
			line := strconv.Itoa(n) + " " + strconv.Itoa(at) + strings.Repeat(" 3f800000", n) + "\n"
			text := strings.Replace(textOfShortPipe, "1 0 00000000\n1 0 00000000\n", line+line, 1)
			if n > impl.MaxRing || at == n {
				wantNoReadPipe(t, text)
				continue
			}
			x, code := impl.ReadPipe(text)
			want(t, "ReadPipe", code, impl.OK)
			want(t, "samples", len(x.Left[0].Samples), n)
			want(t, "At", x.Left[0].At, int64(at))
			want(t, "PipeText", impl.PipeText(x), text)
		}
	}
}
