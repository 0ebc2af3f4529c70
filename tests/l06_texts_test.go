package tests

import (
	"strings"
	"testing"

	"loop.example/g01173/impl"
)

const (
	textOfRoom = "room 3f400000 be800000\n" +
		"tap 3 3dcccccd\n" +
		"tap 1 80000000\n" +
		"3 2 00000000 3f000000 ff7fffff\n" +
		"comb 3e800000\n" +
		"2 1 80000000 00000001\n" +
		"comb c0400000\n" +
		"1 0 3f800000\n" +
		"loop 3f666666\n" +
		"filter 1 3f400000 3e800000 00000000 bf800000 00000000\n" +
		"2 0 3f800000 bf800000\n" +
		"loop 00000001\n" +
		"filter 1 3f800000 00000000 00000000 00000000 00000000\n" +
		"1 0 80000001\n" +
		"loop 7f7fffff\n" +
		"filter 1 3f000000 3f000000 00000000 80000000 00000000\n" +
		"4 3 00000000 00000000 40400000 00000000\n" +
		"loop bf800000\n" +
		"filter 1 3f800000 80000000 00000000 40000000 00000000\n" +
		"1 0 00000000\n"
	textOfShortRoom = "room 3f800000 00000000\n1 0 00000000\n" +
		"comb 3f000000\n1 0 00000000\ncomb 3f000000\n1 0 00000000\n" +
		loopOfText + loopOfText + loopOfText + loopOfText
	loopOfText = "loop 00000000\nfilter 1 3f800000 00000000 00000000 00000000 00000000\n1 0 00000000\n"
)

func roomOfText() impl.Room {
	ring := func(at int64, samples ...float32) impl.Ring { return impl.Ring{Samples: samples, At: at} }
	x := impl.Room{Early: ring(2, 0, 0.5, -greatest), Taps: []impl.Tap{{Back: 3, Gain: 0.1}, {Back: 1, Gain: minusZero}}, Dry: 0.75, Wet: -0.25}
	x.Combs = [2]impl.Comb{{Ring: ring(1, minusZero, leastSample), Gain: 0.25}, {Ring: ring(0, 1), Gain: -3}}
	x.Loops = [4]impl.Ring{ring(0, 1, -1), ring(0, -leastSample), ring(3, 0, 0, 3, 0), ring(0, 0)}
	x.Damps = [4]impl.Filter{impl.OnePole(0.25), impl.OnePole(0), impl.OnePole(0.5), impl.OnePole(minusZero)}
	x.Damps[0].S[0], x.Damps[2].S[0], x.Damps[3].S[0] = -1, minusZero, 2
	x.Gains = [4]float32{0.9, leastSample, greatest, -1}
	return x
}

func shortRoom() impl.Room {
	x := newRoom([4]int64{1, 1, 1, 1}, 1, 0, 0)
	for i := range x.Combs {
		x.Combs[i], _ = impl.NewComb(1, 0.5)
	}
	return x
}

func TestP12TextsOfRooms(t *testing.T) {
	wantText(t, rooms(), roomOfText(), textOfRoom)
	wantText(t, rooms(), shortRoom(), textOfShortRoom)
	wantText(t, rooms(), newRoom([4]int64{1, 1, 1, 1}, 1, 0, 0), strings.Replace(strings.Replace(textOfShortRoom,
		"comb 3f000000\n1 0 00000000\nc", "comb 3f000000\n3 0 00000000 00000000 00000000\nc", 1),
		"comb 3f000000\n1 0 00000000\nl", "comb 3f000000\n5 0 00000000 00000000 00000000 00000000 00000000\nl", 1))
}

func TestP12RoomsAreReadFromTheirTexts(t *testing.T) {
	textsAreRead(t, rooms())
}

func TestP12TextsOfNoRoom(t *testing.T) {
	wantNoOtherText(t, rooms(), textOfRoom)
	wantNoOtherText(t, rooms(), textOfShortRoom)
	for _, text := range []string{textOfBow, textOfJet, textOfShortBow, textOfShortJet} {
		wantNoRead(t, rooms(), text)
		wantNoRead(t, bows(), textOfShortRoom)
		wantNoRead(t, jets(), textOfRoom)
	}
}

func TestP12TextsOfAlmostARoom(t *testing.T) {
	const first, second = "tap 3 3dcccccd\n", "tap 1 80000000\n"
	wantNoAlmost(t, rooms(), textOfRoom, append(almostInBoth(),
		almost{"room", []string{"Room", "ROOM", "rooms", "bow", "jet", "tap", "", " room", "room ", "ro om"}},
		almost{"room 3f400000", []string{"room", "3f400000", "room 3F400000", "room 7fc00000", "room 7f800000", "room ff800000", "room ffc00001", "room 3f40000", "room 3f4000000", "room 3f400000 3f400000", "room\n3f400000"}},
		almost{" be800000\n", []string{"\n", " \n", " BE800000\n", " 7fc00000\n", " 7f800000\n", " ff800000\n", " be80000\n", " be8000000\n", " be800000 be800000\n", " be800000 \n", "  be800000\n", "\nbe800000\n", " be800000 "}},
		almost{first, []string{
			"tap 4 3dcccccd\n", "tap 0 3dcccccd\n", "tap -1 3dcccccd\n", "tap -0 3dcccccd\n", "tap 03 3dcccccd\n", "tap +3 3dcccccd\n", "tap 3.0 3dcccccd\n", "tap 3e0 3dcccccd\n", "tap 0x3 3dcccccd\n", "tap three 3dcccccd\n", "tap ３ 3dcccccd\n", "tap 1025 3dcccccd\n", "tap 9223372036854775808 3dcccccd\n", "tap 18446744073709551619 3dcccccd\n",
			"tap 3 7fc00000\n", "tap 3 7f800000\n", "tap 3 ff800000\n", "tap 3 ffc00001\n", "tap 3 3DCCCCCD\n", "tap 3 3dccccc\n", "tap 3 3dcccccdd\n", "tap 3 3dcccccg\n", "tap 3 \n", "tap 3\n", "tap\n", "tap \n", "\n", "3 3dcccccd\n", "tap 3dcccccd\n", "tap 3dcccccd 3\n", "tap  3 3dcccccd\n", "tap 3  3dcccccd\n", "tap 3 3dcccccd \n", " tap 3 3dcccccd\n", "Tap 3 3dcccccd\n", "TAP 3 3dcccccd\n", "taps 3 3dcccccd\n", "comb 3dcccccd\n", "tap 3 3dcccccd 3dcccccd\n", "tap 3 3 3dcccccd\n", "tap 3 3dcccccd\r\n", "tap\t3\t3dcccccd\n", "tap 3 3dcccccd",
			strings.Repeat(first, impl.MaxTaps), strings.Repeat(first, 2*impl.MaxTaps),
		}},
		almost{first + second + "3 2 00000000 3f000000 ff7fffff\n", []string{"3 2 00000000 3f000000 ff7fffff\n" + first + second, first + "3 2 00000000 3f000000 ff7fffff\n" + second, first + second, first + second + "2 1 00000000 3f000000\n"}},
		almost{"comb 3e800000", []string{"comb", "3e800000", "Comb 3e800000", "combs 3e800000", "loop 3e800000", "comb 3E800000", "comb 7fc00000", "comb 7f800000", "comb ff800000", "comb 3e80000", "comb 3e8000000", "comb 3e800000 3e800000", "comb  3e800000", "comb 3e800000 ", " comb 3e800000", "comb\n3e800000", "tap 1 3e800000"}},
		almost{"comb c0400000\n1 0 3f800000\n", []string{"1 0 3f800000\ncomb c0400000\n", "comb c0400000\n", "1 0 3f800000\n", "", "comb c0400000\n1 0 3f800000\ncomb c0400000\n1 0 3f800000\n", "comb c0400000\n1 0 7f800000\n", "comb c0400000\n1 1 3f800000\n", "comb 7fc00000\n1 0 3f800000\n", "loop c0400000\n1 0 3f800000\n", "comb c0400000\n2 0 3f800000\n", "comb c0400000\n0 0\n", "comb c0400000\n0 0 \n"}},
		almost{"loop 7f7fffff\n", []string{"loop\n", "7f7fffff\n", "loop 7f800000\n", "loop ff800000\n", "loop 7fc00000\n", "loop 7F7FFFFF\n", "Loop 7f7fffff\n", "comb 7f7fffff\n", "loops 7f7fffff\n", "loop 7f7fffff 7f7fffff\n", "loop  7f7fffff\n", "loop 7f7fffff \n", "", "loop 7f7ffff\n", "loop 7f7fffff\nloop 7f7fffff\n"}},
		almost{"filter 1 3f800000 80000000", []string{"filter 2 3f800000 80000000", "filter 5 3f800000 80000000", "filter 01 3f800000 80000000", "filter 1 3f800000 7f800000", "filter 1 3f800000", "filter 1 7fc00000 80000000"}},
		almost{"4 3 00000000 00000000 40400000 00000000\n", []string{"4 4 00000000 00000000 40400000 00000000\n", "3 2 00000000 00000000 40400000 00000000\n", "5 3 00000000 00000000 40400000 00000000\n", "4 3 00000000 00000000 40400000\n", "04 3 00000000 00000000 40400000 00000000\n", "4 +3 00000000 00000000 40400000 00000000\n", "4 3 00000000 00000000 7fc00000 00000000\n", ""}}))
	wantNoAlmost(t, rooms(), textOfShortRoom, []almost{
		{loopOfText, []string{"", loopOfText + loopOfText}}, {"room 3f800000 00000000\n", []string{"room 3f800000 00000000\ntap 1 00000000\ntap 2 00000000\n"}}, {"00000000\n1 0 00000000\ncomb", []string{"00000000\n1 0 00000000\ntap 1 00000000\ncomb"}},
	})
}

func TestP12TextsOfRoomsWithTaps(t *testing.T) {
	const tap = "tap 3 3dcccccd\n"
	for count := range impl.MaxTaps + 3 {
		text := strings.Replace(textOfRoom, tap+"tap 1 80000000\n", strings.Repeat(tap, count), 1)
		if count > impl.MaxTaps {
			wantNoRead(t, rooms(), text)
			continue
		}
		x, code := impl.ReadRoom(text)
		want(t, "ReadRoom", code, impl.OK)
		want(t, "taps", len(x.Taps), count)
		want(t, "RoomText", impl.RoomText(x), text)
	}
	// Both orders of unlike taps are texts, of unlike rooms.
	other := strings.Replace(textOfRoom, tap+"tap 1 80000000\n", "tap 1 80000000\n"+tap, 1)
	x, code := impl.ReadRoom(other)
	want(t, "ReadRoom", code, impl.OK)
	wantTaps(t, "ReadRoom", x.Taps, []impl.Tap{{Back: 1, Gain: minusZero}, {Back: 3, Gain: 0.1}})
	want(t, "RoomText", impl.RoomText(x), other)
}

func TestP12TextsOfLongRooms(t *testing.T) {
	longTextsAreRead(t, rooms(), textOfShortRoom)
}
