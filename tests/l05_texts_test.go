package tests

import (
	"strconv"
	"strings"
	"testing"

	"loop.example/g01173/impl"
)

const (
	textOfBow = "bow c0400000 3f666666\n" +
		"filter 1 3f400000 3e800000 00000000 bf800000 00000000\n" +
		"3 2 00000000 3f000000 ff7fffff\n" +
		"2 1 80000000 00000001\n"
	textOfShortBow = "bow 00000000 3f800000\nfilter 1 3f800000 00000000 00000000 00000000 00000000\n1 0 00000000\n1 0 00000000\n"
	textOfJet      = "jet 3f000000 80000000\n" +
		"filter 1 3f400000 3e800000 00000000 bf800000 00000000\n" +
		"filter 5 3f7eb852 00000000 00000000 80000000 3f800000\n" +
		"3 2 00000000 3f000000 ff7fffff\n" +
		"2 1 80000000 00000001\n"
	textOfShortJet = "jet 00000000 bf800000\nfilter 1 3f800000 00000000 00000000 00000000 00000000\nfilter 5 3f7eb852 00000000 00000000 00000000 00000000\n1 0 00000000\n1 0 00000000\n"
)

func bowOfText() impl.Bow {
	x := newBow(5, 0.4, 0.25, 0.9, -3)
	x.Damp.S[0] = -1
	x.Neck, x.Bridge = impl.Ring{Samples: []float32{0, 0.5, -greatest}, At: 2}, impl.Ring{Samples: []float32{minusZero, leastSample}, At: 1}
	return x
}

func jetOfText() impl.Jet {
	x := newJet(3, 2, 0.25, 0.5, minusZero)
	x.Low.S[0], x.Dc.S = -1, [2]float32{minusZero, 1}
	x.Throat, x.Bore = impl.Ring{Samples: []float32{0, 0.5, -greatest}, At: 2}, impl.Ring{Samples: []float32{minusZero, leastSample}, At: 1}
	return x
}

func TestP10TextsOfBowsAndJets(t *testing.T) {
	wantText(t, bows(), bowOfText(), textOfBow)
	wantText(t, bows(), newBow(2, 0, 0, 1, 0), textOfShortBow)
	wantText(t, jets(), jetOfText(), textOfJet)
	wantText(t, jets(), newJet(1, 1, 0, 0, -1), textOfShortJet)
}

func wantText[T any](t *testing.T, m model[T], x T, text string) {
	t.Helper()
	want(t, m.name, m.text(x), text)
	back, code := m.read(text)
	want(t, m.name+", read", code, impl.OK)
	m.want(t, m.name+", read", back, x)
}

func TestP10BowsAndJetsAreReadFromTheirTexts(t *testing.T) {
	textsAreRead(t, bows())
	textsAreRead(t, jets())
}

func textsAreRead[T any](t *testing.T, m model[T]) {
	for _, x := range m.valid() {
		wantText(t, m, x, m.text(x))
	}
	for _, x := range m.invalid() {
		want(t, m.name, m.text(x), "")
	}
}

func wantNoRead[T any](t *testing.T, m model[T], text string) {
	t.Helper()
	var none T
	x, code := m.read(text)
	if code != impl.ErrSyntax {
		t.Errorf("%s: reading %.400q: got %d, want %d", m.name, text, code, impl.ErrSyntax)
	}
	m.want(t, m.name+", with an error", x, none)
}

func TestP10TextsOfNoBowOrJet(t *testing.T) {
	for _, text := range []string{textOfBow, textOfShortBow} {
		wantNoOtherText(t, bows(), text)
		wantNoRead(t, jets(), text)
	}
	for _, text := range []string{textOfJet, textOfShortJet} {
		wantNoOtherText(t, jets(), text)
		wantNoRead(t, bows(), text)
	}
}

// wantNoOtherText changes each byte and each line of a text.
func wantNoOtherText[T any](t *testing.T, m model[T], text string) {
	for i := range text {
		wantNoRead(t, m, text[:i])
		wantNoRead(t, m, text[:i]+" "+text[i:])
		wantNoRead(t, m, text[:i]+"\n"+text[i:])
		wantNoRead(t, m, text[:i]+text[i+1:])
		wantNoRead(t, m, text[:i]+"x"+text[i+1:])
	}
	for _, other := range []string{
		"", " ", "\n", "\n\n\n\n", "\n\n\n\n\n", m.name, m.name + " ", m.name + "\n", text + "\n", text + " ", text + "x", text + text, " " + text, "\n" + text, text + "1 0 00000000\n", text[:len(text)-1] + " ",
		strings.ReplaceAll(text, "\n", "\r\n"), strings.ReplaceAll(text, "\n", " "), strings.ReplaceAll(text, " ", "\t"), strings.ReplaceAll(text, " ", "\n"), strings.ReplaceAll(text, " ", "  "), strings.ToUpper(text),
	} {
		if other != text { // as a text without newlines is
			wantNoRead(t, m, other)
		}
	}
	lines := strings.SplitAfter(text, "\n")
	last := len(lines) - 1
	// Taps may be any, and in any order.
	isTap := func(i int) bool { return strings.HasPrefix(lines[i], "tap ") }
	for i := range last {
		rest := strings.Join(lines[i+1:], "")
		if !isTap(i) {
			wantNoRead(t, m, strings.Join(lines[:i], "")+rest)
			wantNoRead(t, m, strings.Join(lines[:i+1], "")+lines[i]+rest)
		}
		if i > 0 && i < last-1 && !(isTap(i) && isTap(i-1)) {
			wantNoRead(t, m, strings.Join(lines[:i-1], "")+lines[i]+lines[i-1]+rest)
		}
	}
}

// almost has words of a text, and others that may not stand in their place.
type almost struct {
	old  string
	news []string
}

func almostInBoth() []almost {
	return []almost{
		{"filter 1", []string{"filter 2", "filter 3", "filter 4", "filter 5", "filter 0", "filter 6", "filter 01", "filter +1", "Filter 1", "filter"}},
		{"bf800000 00000000\n", []string{"7f800000 00000000\n", "7fc00000 00000000\n", "bf800000 00000001\n", "bf800000 80000000\n", "bf800000\n", "bf800000 00000000 \n"}},
		{"\n3 2 ", []string{"\n4 2 ", "\n2 2 ", "\n2 1 ", "\n0 2 ", "\n-3 2 ", "\n03 2 ", "\n+3 2 ", "\n3 3 ", "\n3 -1 ", "\n3 02 ", "\n3 +2 ", "\n3 2.0 ", "\n3 2e0 ", "\n3 -0 ", "\n3 9223372036854775808 ", "\n3 18446744073709551618 ", "\n3  ", "\n3 ", "\n2 ", "\n3 2 2 ", "\n3 ２ ", "\n3.0 2 ", "\nthree 2 ", "\n 3 2 "}},
		{"\n2 1 ", []string{"\n3 1 ", "\n1 1 ", "\n1 0 ", "\n0 1 ", "\n-2 1 ", "\n02 1 ", "\n+2 1 ", "\n2 2 ", "\n2 -1 ", "\n2 01 ", "\n2 +1 ", "\n2 ", "\n", "\n2 18446744073709551617 "}},
		{"ff7fffff\n", []string{"ff800000\n", "7f800000\n", "7fc00000\n", "ff800001\n", "FF7FFFFF\n", "ff7fffff ff7fffff\n", "\n", "ff7fffff \n", "ff7ffff\n"}},
		{"80000000 00000001\n", []string{"7f800000 00000001\n", "80000000 7fc00000\n", "80000000 00000001 00000000\n", "80000000\n", "\n", "80000000 00000001", "80000000 00000001\n\n"}},
		{"3 2 00000000 3f000000 ff7fffff\n", []string{"0 0\n", "0 0 \n", "3 2\n", "3 2 \n", "3\n", "\n", ""}},
		{"2 1 80000000 00000001\n", []string{"0 0\n", "0 0 \n", "2 1\n", "2 1 \n", "2\n", "\n", "", "2 1 80000000 0000000g\n"}},
	}
}

func wantNoAlmost[T any](t *testing.T, m model[T], text string, list []almost) {
	t.Helper()
	for _, c := range list {
		for _, word := range c.news {
			other := strings.Replace(text, c.old, word, 1)
			if other == text {
				t.Fatalf("%q is not found", c.old)
			}
			wantNoRead(t, m, other)
		}
	}
}

func TestP10TextsOfAlmostABowOrJet(t *testing.T) {
	wantNoAlmost(t, bows(), textOfBow, append(almostInBoth(),
		almost{"bow", []string{"Bow", "BOW", "bows", "jet", "pipe", "", " bow", "bow ", "bo w"}},
		almost{"bow c0400000", []string{"bow", "c0400000", "bow C0400000", "bow 7fc00000", "bow 7f800000", "bow ff800000", "bow ffc00001", "bow c040000", "bow c04000000", "bow c0400000 c0400000", "bow\nc0400000"}},
		almost{" 3f666666\n", []string{"\n", " \n", " 3F666666\n", " 7fc00000\n", " 7f800000\n", " ff800000\n", " ffc00001\n", " 3f66666\n", " 3f6666666\n", " 3f666666 3f666666\n", " 3f666666 \n", "  3f666666\n", "\n3f666666\n", " 3f666666 "}}))
	wantNoAlmost(t, jets(), textOfJet, append(almostInBoth(),
		almost{"jet", []string{"Jet", "JET", "jets", "bow", "pipe", "", " jet", "jet ", "je t"}},
		almost{"jet 3f000000", []string{"jet", "3f000000", "jet 3F000000", "jet 7fc00000", "jet 7f800000", "jet ff800000", "jet ffc00001", "jet 3f00000", "jet 3f0000000", "jet 3f000000 3f000000", "jet\n3f000000"}},
		almost{" 80000000\nfilter", []string{"\nfilter", " \nfilter", " 7fc00000\nfilter", " 7f800000\nfilter", " ff800000\nfilter", " 8000000\nfilter", " 80000000 80000000\nfilter", " 80000000 \nfilter", "\n80000000\nfilter", " 80000000 filter"}},
		almost{"filter 5", []string{"filter 1", "filter 2", "filter 3", "filter 4", "filter 0", "filter 05", "filter +5", "filter"}},
		almost{"3f7eb852 00000000 00000000", []string{"7fc00000 00000000 00000000", "3f7eb852 80000000 00000000", "3f7eb852 00000000 00000001", "3f7eb852 00000000", "3F7EB852 00000000 00000000"}},
		almost{"80000000 3f800000\n", []string{"7f800000 3f800000\n", "80000000 7fc00000\n", "80000000\n", "80000000 3f800000 00000000\n"}}))
	wantNoAlmost(t, bows(), textOfShortBow, []almost{{"1 0 00000000\n1 0 00000000\n", []string{"0 0\n0 0\n", "0 0 \n0 0 \n", "1 0 00000000\n", "1 0 00000000\n0 0\n", "1 0 00000000\n1 0 00000000\n1 0 00000000\n", "1 1 00000000\n1 0 00000000\n", "1 0 00000000\n1 1 00000000\n"}}})
}

func TestP10TextsOfLongBowsAndJets(t *testing.T) {
	longTextsAreRead(t, bows(), textOfShortBow)
	longTextsAreRead(t, jets(), textOfShortJet)
}

func longTextsAreRead[T any](t *testing.T, m model[T], short string) {
	const line = "1 0 00000000\n"
	pieces := strings.Split(short, line)
	for n := impl.MaxRing - 1; n <= impl.MaxRing+1; n++ {
		for _, at := range []int{0, 10, n - 1, n} {
			long := strconv.Itoa(n) + " " + strconv.Itoa(at) + strings.Repeat(" 3f800000", n) + "\n"
			for i := range len(pieces) - 1 {
				text := strings.Join(pieces[:i+1], line) + long + strings.Join(pieces[i+1:], line)
				if n > impl.MaxRing || at == n {
					wantNoRead(t, m, text)
					continue
				}
				x, code := m.read(text)
				want(t, m.name, code, impl.OK)
				want(t, m.name+", samples", len(m.parts(&x).rings[i].Samples), n)
				want(t, m.name+", At", m.parts(&x).rings[i].At, int64(at))
				want(t, m.name+", text", m.text(x), text)
			}
		}
	}
}
