package tests

import (
	"fmt"
	"math"
	"strings"
	"testing"

	"loop.example/g01173/impl"
)

func wantFraction(t *testing.T, text string, expected float32) {
	t.Helper()
	a, code := impl.ReadFraction(text)
	if code != impl.OK || !sameBits(a, expected) {
		t.Errorf("ReadFraction %q: got %v, %d, want %v", text, a, code, expected)
	}
}

func wantNoFraction(t *testing.T, text string) {
	t.Helper()
	a, code := impl.ReadFraction(text)
	if code != impl.ErrSyntax || !sameBits(a, 0) {
		t.Errorf("ReadFraction %q: got %v, %d", text, a, code)
	}
}

func TestP15Fractions(t *testing.T) {
	for text, expected := range map[string]float32{
		"0": 0, "-0": 0, "0/2": 0, "-0/1024": 0, "1": 1, "-1": -1, "9": 9, "10": 10, "123456": 123456, "-123456": -123456, "999999": 999999, "-999999": -999999, "100000": 100000,
		"1/2": 0.5, "-1/2": -0.5, "3/8": 0.375, "-3/8": -0.375, "2/2": 1, "6/4": 1.5, "1024/1024": 1, "1/1024": 0.0009765625, "255/256": 0.99609375, "7/16": 0.4375, "5/32": 0.15625, "3/64": 0.046875, "1/128": 0.0078125, "513/512": 1.001953125,
	} {
		wantFraction(t, text, expected)
	}
	wantFraction(t, "999999/1024", bitsOf(0x447423f0))
	wantFraction(t, "-999999/1024", bitsOf(0xc47423f0))
	wantFraction(t, "999999/2", bitsOf(0x48f423f0))
	for _, text := range noFractions {
		wantNoFraction(t, text)
	}
}

func TestP15FractionsAreExact(t *testing.T) {
	for _, n := range []int{0, 1, 2, 7, 99, 1000, 33333, 524287, 524289, 999998, 999999} {
		for power := 1; power <= 20; power++ {
			text := fmt.Sprintf("%d/%d", n, 1<<power)
			if power > 10 {
				wantNoFraction(t, text)
				wantNoFraction(t, "-"+text)
				continue
			}
			wide := math.Ldexp(float64(n), -power)
			wantFraction(t, text, float32(wide))
			wantFraction(t, "-"+text, float32(0-wide))
			a, _ := impl.ReadFraction(text)
			want(t, text, float64(a), wide)
		}
	}
	for n := range 2100 {
		a, ok := fractionOf(fmt.Sprintf("5/%d", n))
		if ok {
			wantFraction(t, fmt.Sprintf("5/%d", n), a)
		} else {
			wantNoFraction(t, fmt.Sprintf("5/%d", n))
		}
	}
}

func TestP15FractionsOfAllShortTexts(t *testing.T) {
	letters := "-/0128 x+."
	texts := []string{""}
	for range 4 {
		for _, text := range texts {
			for _, c := range letters {
				texts = append(texts, text+string(c))
			}
		}
	}
	right := 0
	for _, text := range texts {
		if a, ok := fractionOf(text); ok {
			wantFraction(t, text, a)
			right++
		} else {
			wantNoFraction(t, text)
		}
	}
	want(t, "some are fractions", right > 100, true)
}

func TestP15FractionsWithOtherBytes(t *testing.T) {
	for _, text := range []string{"0", "7", "-12", "123456", "3/8", "-999999/1024"} {
		for i := range len(text) + 1 {
			for c := range 256 {
				for _, other := range []string{text[:i] + string([]byte{byte(c)}) + text[i:], text[:i] + string([]byte{byte(c)}) + text[min(i+1, len(text)):]} {
					if a, ok := fractionOf(other); ok {
						wantFraction(t, other, a)
					} else {
						wantNoFraction(t, other)
					}
				}
			}
		}
	}
}

func TestP1ReturnsForLongFractions(t *testing.T) {
	for _, text := range []string{strings.Repeat("1", 1000000), strings.Repeat("0", 1000000), strings.Repeat("/", 1000000), strings.Repeat("-", 1000000), "1/" + strings.Repeat("2", 999990), "1" + strings.Repeat(" ", 999990), strings.Repeat("1", 999990) + "/2", "18446744073709551617", "18446744073709551617/2", "1/18446744073709551618", "4294967297", "1/4294967298"} {
		wantNoFraction(t, text)
	}
}
