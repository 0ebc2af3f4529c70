package tests

import (
	"math"
	"strings"
	"testing"

	"loop.example/g01173/impl"
)

func TestP2TextsOfBlocks(t *testing.T) {
	b := impl.Block{0, minusZero, 1, -1, 0.5, leastSample, -mostSub, leastNormal, greatest, infinite, -infinite, nan, otherNaN, 32768, math.Float32frombits(0x7f800001), math.Float32frombits(0xdeadbeef)}
	text := "00000000 80000000 3f800000 bf800000 3f000000 00000001 807fffff 00800000 7f7fffff 7f800000 ff800000 7fc00000 7fc00000 47000000 7fc00000 deadbeef"
	want(t, "BlockText", impl.BlockText(b), text)
	back, code := impl.ReadBlock(text)
	want(t, "ReadBlock", code, impl.OK)
	wantBlock(t, "ReadBlock", back, b)
}

func TestP2BlocksAreReadFromTheirTexts(t *testing.T) {
	r := newRandom()
	for range 2000 {
		b := anyBlock(r)
		text := impl.BlockText(b)
		back, code := impl.ReadBlock(text)
		want(t, "ReadBlock", code, impl.OK)
		wantBlock(t, "ReadBlock", back, b)
		want(t, "the text again", impl.BlockText(back), text)
	}
}

func TestP2EveryDigitIsRead(t *testing.T) {
	for value := range uint32(16) {
		for place := range 8 {
			b := impl.Block{15: math.Float32frombits(value << (4 * place))}
			if b[15] != b[15] {
				continue
			}
			word := []byte("00000000")
			word[7-place] = "0123456789abcdef"[value]
			text := strings.Repeat("00000000 ", 15) + string(word)
			want(t, "BlockText", impl.BlockText(b), text)
			back, code := impl.ReadBlock(text)
			want(t, "ReadBlock", code, impl.OK)
			wantBlock(t, "ReadBlock", back, b)
		}
	}
}

func TestP2TextsOfNoBlock(t *testing.T) {
	good := strings.TrimSuffix(strings.Repeat("3f800000 ", 16), " ")
	list := []string{
		"", "00000000", good[9:], good + " 3f800000", good + " ", " " + good, good + "\n", good[1:], good + "0", good[:len(good)-1],
		strings.Replace(good, " ", "  ", 1), strings.Replace(good, " ", "\t", 1), strings.ReplaceAll(good, " ", ""), strings.Replace(good, " ", "\u00a0", 1),
		"3f80000 3f8000000" + good[17:], "0x800000" + good[8:], "+3f80000" + good[8:], "-3f80000" + good[8:], "3f_80000" + good[8:],
	}
	for _, digit := range "FABCDEg/:@`G \x00é" {
		list = append(list, string(digit)+good[1:], good[:len(good)-1]+string(digit))
	}
	for _, word := range []string{"3F800000", "7fc00001", "ffc00000", "7f800001", "ff800001", "7fffffff", "ffffffff", "7FC00000"} {
		list = append(list, word+good[8:], good[:len(good)-8]+word)
	}
	for _, text := range list {
		b, code := impl.ReadBlock(text)
		if code != impl.ErrSyntax {
			t.Errorf("ReadBlock %q: got %d, want %d", text, code, impl.ErrSyntax)
		}
		wantBlock(t, "with an error", b, impl.Block{})
	}
}
