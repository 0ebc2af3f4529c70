package tests

import (
	"fmt"
	"testing"

	"loop.example/g01173/impl"
)

func TestP18SyncAndCrashAtEachPoint(t *testing.T) {
	s := bandStage(t, 4, 2)
	list := deeds("give 0, give 1, deliver 0, deliver 0, work 1, deliver 0, give 1, deliver 0, work 1, work 0, deliver 0, give 0, deliver 0, deliver 0, work 0, deliver 0")
	for i := range len(list) + 1 {
		for j := i; j <= len(list); j++ {
			for _, both := range []string{"sync, crash", "crash, sync", "crash, crash", "sync, sync"} {
				two := deeds(both)
				all := append(append([]impl.Deed{}, list[:i]...), two[0])
				all = append(append(all, list[i:j]...), two[1])
				wantAfter(t, s, all)
				wantAfter(t, s, append(all, list[j:]...))
			}
		}
	}
}

func TestP18ACrashKeepsWhatIsSynced(t *testing.T) {
	s := bandStage(t, 4, 2)
	m := newTold(t, s)
	for synced := range 5 {
		for played := synced; played <= 4; played++ {
			text := rounds(synced) + ", sync"
			if played > synced {
				text += ", " + rounds(played-synced)
			}
			before := hallOf(t, s, deeds(text))
			want(t, text+": blocks", len(before.Done), played)
			want(t, text+": Synced", before.Synced, int64(synced))
			want(t, text+": Kept", before.Kept, m.states[synced])
			want(t, text+": State", before.State, m.states[played])
			for range 3 {
				text += ", crash"
				wantHall(t, text, hallOf(t, s, deeds(text)), impl.Hall{Done: m.blocks[:synced], State: m.states[synced], Synced: int64(synced), Kept: m.states[synced], Benches: make([]impl.Bench, 2)})
			}
			again := rounds(4)
			wantHall(t, "and goes on", hallOf(t, s, deeds(text+", "+again)), impl.Hall{Done: m.blocks, State: m.states[4], Synced: int64(synced), Kept: m.states[synced], Benches: make([]impl.Bench, 2)})
			wantHall(t, "and a sync", hallOf(t, s, deeds(text+", "+again+", sync")), impl.Hall{Done: m.blocks, State: m.states[4], Synced: 4, Kept: m.states[4], Benches: make([]impl.Bench, 2)})
		}
	}
	// A sync behind a crash keeps no more than is left.
	hall := hallOf(t, s, deeds(rounds(1)+", sync, "+rounds(2)+", crash, sync"))
	wantHall(t, "a sync behind a crash", hall, impl.Hall{Done: m.blocks[:1], State: m.states[1], Synced: 1, Kept: m.states[1], Benches: make([]impl.Bench, 2)})
	hall = hallOf(t, s, deeds(rounds(2)+", crash, sync"))
	wantHall(t, "with nothing synced", hall, impl.Hall{State: m.states[0], Kept: m.states[0], Benches: make([]impl.Bench, 2)})
}

func TestP18ACrashLeavesTheWireAndTheBenches(t *testing.T) {
	s := bandStage(t, 4, 3)
	// Two benches are full, and three cargos are on the wire, one of which has come back.
	text := rounds(1) + ", sync, " + round + ", give 0, give 1, give 2, deliver 0, deliver 0, deliver 0, work 1, give 1, give 0"
	before := hallOf(t, s, deeds(text))
	want(t, "the wire", len(before.Wire), 3)
	for _, more := range []string{"crash", "crash, crash", "crash, sync", "sync, crash"} {
		hall := hallOf(t, s, deeds(text+", "+more))
		want(t, more+": the wire", writtenDown(hall.Wire), writtenDown(before.Wire))
		want(t, more+": the benches", writtenDown(hall.Benches), writtenDown(before.Benches))
		wantAfter(t, s, deeds(text+", "+more))
	}
	// What is on the benches is ahead of what is left, but can be played.
	wantAfter(t, s, deeds(text+", crash, work 0, work 2"))
	want(t, "of another index", len(hallOf(t, s, deeds(text+", crash, work 0, deliver 3, deliver 0")).Done), 1)
	behind := text + ", crash, give 1, deliver 3, work 1, deliver 3, work 0, deliver 3"
	want(t, "of the next index again", len(hallOf(t, s, deeds(behind)).Done), 3)
	wantAfter(t, s, deeds(behind))
}

func TestP19CargosFromBeforeACrash(t *testing.T) {
	s := bandStage(t, 4, 2)
	for _, c := range []struct {
		text   string
		blocks int
	}{
		// A block that comes back behind a crash, as what it follows is there.
		{"give 0, deliver 0, work 0, crash, deliver 0", 1}, {"give 0, deliver 0, crash, work 0, deliver 0", 1}, {"give 0, crash, deliver 0, work 0, deliver 0", 1},
		{round + ", sync, give 0, deliver 0, work 0, crash, deliver 0", 2}, {"give 0, deliver 0, work 0, copy 0, crash, deliver 0", 1}, {"give 0, deliver 0, work 0, copy 0, crash, copy 0, crash, copy 0, crash, deliver 0", 1},
		// One whose index is not the next one any more, or not yet again.
		{round + ", give 0, deliver 0, work 0, crash, deliver 0", 0}, {round + ", give 0, crash, deliver 0, work 0, deliver 0", 0}, {"give 0, deliver 0, work 0, copy 0, sync, crash, deliver 0", 1},
		{round + ", give 1, deliver 0, work 1, crash, copy 0, give 0, deliver 1, work 0, deliver 1, deliver 0", 2},
		{"give 0, deliver 0, work 0, copy 0, give 1, deliver 1, work 1, copy 1, crash, copy 1, deliver 0, deliver 0", 2},
		// A copy of the first block makes up for a crash, and then one of the second.
		{"give 0, deliver 0, work 0, copy 0, give 1, deliver 1, work 1, copy 1, crash, copy 0, copy 1, sync, crash", 2},
	} {
		wantBlocksPlayed(t, s, c.text, c.blocks)
	}
}

func TestP18QuitsOfFullAndEmptyBenches(t *testing.T) {
	for workers := int64(1); workers <= 3; workers++ {
		s := bandStage(t, 3, workers)
		for a := range workers {
			quit, given := fmt.Sprint("quit ", a), fmt.Sprintf("give %d, deliver 0", a)
			wantAfter(t, s, deeds(quit))
			wantAfter(t, s, deeds(quit+", "+quit))
			wantAfter(t, s, deeds(given+", "+quit))
			hall := hallOf(t, s, deeds(given+", "+quit))
			want(t, "the benches", writtenDown(hall.Benches), writtenDown(make([]impl.Bench, workers)))
			again := fmt.Sprintf("%s, %s, %s, %s, work %d, deliver 0", given, quit, quit, given, a)
			wantAfter(t, s, deeds(again))
			want(t, again, len(hallOf(t, s, deeds(again)).Done), 1)
			// A worker who plays the first block again, behind a quit of the second one.
			other := fmt.Sprintf("give %d, %s, work %d, copy 1, %s, deliver 2, %s, %s", a, given, a, given, quit, "deliver 0")
			wantAfter(t, s, deeds(other))
			wantAfter(t, s, deeds(other+fmt.Sprintf(", work %d, deliver 0, deliver 0", a)))
		}
		full := "give 0, deliver 0"
		for a := int64(1); a < workers; a++ {
			full += fmt.Sprintf(", give %d, deliver 0", a)
		}
		for a := range workers {
			wantAfter(t, s, deeds(full+fmt.Sprint(", quit ", a)))
			for b := range workers {
				wantAfter(t, s, deeds(full+fmt.Sprintf(", quit %d, work %d", a, b)))
				wantAfter(t, s, deeds(full+fmt.Sprintf(", work %d, quit %d", a, b)))
			}
		}
	}
}
