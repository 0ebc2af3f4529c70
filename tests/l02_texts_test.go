package tests

import (
	"strconv"
	"strings"
	"testing"

	"loop.example/g01173/impl"
)

func TestP4TextsOfFilters(t *testing.T) {
	for _, c := range []struct {
		f    impl.Filter
		text string
	}{
		{impl.OnePole(0.5), "filter 1 3f000000 3f000000 00000000 00000000 00000000"},
		{impl.OneZero(0), "filter 2 3f800000 00000000 00000000 00000000 00000000"},
		{allpassFor(2), "filter 3 beaaaaab 00000000 00000000 00000000 00000000"},
		{impl.TwoPole(0.1, 0.9), "filter 4 3dccccd0 bfba65c3 3f4f5c28 00000000 00000000"},
		{impl.BlockDc(minusZero), "filter 5 80000000 00000000 00000000 00000000 00000000"},
		{impl.Filter{Kind: impl.FkTwoPole, C: [3]float32{1, -2, 0.25}, S: [2]float32{greatest, -leastSample}}, "filter 4 3f800000 c0000000 3e800000 7f7fffff 80000001"},
	} {
		want(t, "FilterText", impl.FilterText(c.f), c.text)
		f, code := impl.ReadFilter(c.text)
		want(t, "ReadFilter", code, impl.OK)
		wantFilter(t, "ReadFilter", f, c.f)
	}
}

func TestP4FiltersAreReadFromTheirTexts(t *testing.T) {
	for _, f := range validFilters() {
		text := impl.FilterText(f)
		back, code := impl.ReadFilter(text)
		want(t, "ReadFilter", code, impl.OK)
		wantFilter(t, "ReadFilter", back, f)
		want(t, "the text again", impl.FilterText(back), text)
	}
}

func TestP4FiltersThatAreNotValidHaveNoText(t *testing.T) {
	for _, f := range invalidFilters() {
		want(t, "FilterText", impl.FilterText(f), "")
	}
}

func TestP4TextsOfNoFilter(t *testing.T) {
	const good = "filter 1 3f000000 3f000000 00000000 00000000 00000000"
	numbers := strings.TrimPrefix(good, "filter 1")
	list := []string{
		"", " ", "filter", "filter 1", good[1:], good[:len(good)-1], good[:len(good)-9], good + " 00000000", good + " ", " " + good, good + "\n", good + "0",
		"Filter 1" + numbers, "FILTER 1" + numbers, "filters 1" + numbers, " 1" + numbers, "1" + numbers, "string 1" + numbers,
		strings.Replace(good, " ", "  ", 1), strings.Replace(good, " ", "\t", 1), strings.Replace(good, " ", "\n", 1), strings.ReplaceAll(good, " ", ""),
	}
	for _, kind := range []string{"", "0", "6", "7", "-1", "+1", "01", "1.0", "1e0", "0x1", "one", "１", "1_", "18446744073709551617", "9223372036854775808", "99999999999999999999999"} {
		list = append(list, "filter "+kind+numbers)
	}
	for i := range 5 {
		for _, word := range []string{"7fc00000", "7f800000", "ff800000", "7fc00001", "ffc00000", "3F000000", "3f00000", "3f0000000", "3f00000g", "+3f00000", "0x3f0000", ""} {
			words := strings.Split(good, " ")
			words[i+2] = word
			list = append(list, strings.Join(words, " "))
		}
	}
	for _, text := range list {
		wantNoFilter(t, text)
	}
}

func TestP4TextsWithNumbersThatAreNotMentioned(t *testing.T) {
	for kind := range int64(7) {
		numbers, states := usedOf(kind)
		for i := range 5 {
			used := kind >= 1 && kind <= 5 && (i < numbers || i >= 3 && i < 3+states)
			for _, word := range []string{"80000000", "00000001", "3f800000"} {
				words := strings.Split("filter 0 00000000 00000000 00000000 00000000 00000000", " ")
				words[1] = strconv.FormatInt(kind, 10)
				words[i+2] = word
				text := strings.Join(words, " ")
				if !used {
					wantNoFilter(t, text)
					continue
				}
				f, code := impl.ReadFilter(text)
				want(t, text, code, impl.OK)
				want(t, "FilterText", impl.FilterText(f), text)
			}
		}
	}
}

func wantNoFilter(t *testing.T, text string) {
	t.Helper()
	f, code := impl.ReadFilter(text)
	if code != impl.ErrSyntax {
		t.Errorf("ReadFilter %q: got %d, want %d", text, code, impl.ErrSyntax)
	}
	wantFilter(t, "with an error", f, impl.Filter{})
}
