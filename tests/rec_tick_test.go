package tests

import (
	"testing"

	"loop.example/wharfhall/impl"
)

func TestTicksOfRecordersThatAreNotValid(t *testing.T) {
	for what, wrong := range wrongRecorders() {
		eachUp(func(role string, make func() impl.Recorder) {
			r := make()
			wrong(&r)
			wantRecorder(t, role+", "+what, r, false)
			wantRecTicked(t, role+", "+what, r, impl.Recorder{}, nil)
			wantFallen(t, role+", "+what, r, impl.Recorder{})
			wantRisen(t, role+", "+what, r, impl.Recorder{})
		})
	}
}

// Whatever its disks are, one that is not Up is left alone: what is written does not become safe.
func TestTicksOfRecordersThatAreNotUp(t *testing.T) {
	for _, r := range []impl.Recorder{fallenRecorder(), {Number: 1, Of: 1}, {Number: 2, Of: 3}, {Number: 5, Of: 5, Disk: disk(8, 1, "1:a")}} {
		wantRecorder(t, "not Up", r, true)
		wantRecTicked(t, "not Up", r, r, nil)
	}
}

// The given ones are known by their disks of two places, their three messages and their three wishes, of which one is known.
func TestTicksOfEachRole(t *testing.T) {
	drops := wishesFor("c", "\x00")
	leading := leadingRecorder()
	wantRecTicks(t, []recTickCase{
		{"quiet", quietRecorder(), []recTurn{drops}, nil},
		{"trying, and two of three promised", tryingRecorder(),
			[]recTurn{drops, leads, writes("3:a 5:b 8:y 8:"), acks(0, 4, 2), writes("3:a 5:b 8:y 8: 8:c 8:\x00")},
			append(beats(leading, 2), offers(leading, 3, "y", "", "c", "\x00")...)},
		{"leading", leading, []recTurn{drops, acks(1, 4, 2), writes("3:a 5:b 0: 8: 8:c 8:\x00")},
			append(beats(leading, 2), offers(leading, 3, "", "", "c", "\x00")...)},
	})
}

// Safe becomes the disk, whatever was safe before, and be it more than what is written.
func TestTicksMakeTheDiskSafe(t *testing.T) {
	for what, safe := range map[string]impl.RecDisk{
		"nothing":         {},
		"as much":         disk(8, 2, "3:a 5:b 0: 8:"),
		"more promised":   disk(impl.RecMaxBallot, 0, ""),
		"more known":      disk(9, 3, "9:x 9:y 9:z"),
		"more slots":      {Promise: 7, Known: 1, Slots: manySlots(impl.RecMaxSlots, 7)},
		"another text":    disk(8, 2, "3:a 5:other"),
		"slots, no ticks": disk(8, 0, "0: 0: 0:"),
	} {
		eachUp(func(role string, make func() impl.Recorder) {
			r := make()
			want, sent := recTickByHand(r)
			r.Safe = safe
			wantRecTicked(t, role+", safe was "+what, r, want, sent)
		})
		r := turnedRecorder(quietRecorder(), func(r *impl.Recorder) { r.Safe = safe })
		got, _ := impl.RecTick(r)
		if !sameDisk(got.Safe, r.Disk) || !sameDisk(got.Disk, r.Disk) {
			t.Errorf("safe was %s: the disk is %+v and what is safe %+v", what, got.Disk, got.Safe)
		}
	}
}

func TestTicksSendWhatWasHeld(t *testing.T) {
	eachUp(func(role string, make func() impl.Recorder) {
		_, behind := recTickByHand(turnedRecorder(make(), heldTimes(0)))
		for _, n := range []int{0, 1, 2, impl.RecMaxHeld - 1, impl.RecMaxHeld} {
			r := turnedRecorder(make(), heldTimes(n))
			for i := range r.Held {
				r.Held[i].Index = i % impl.RecMaxSlots
			}
			got, sent := impl.RecTick(r)
			if len(got.Held) != 0 || len(sent) != n+len(behind) || !sameSent(sent[:n], r.Held) || !sameSent(sent[n:], behind) {
				t.Errorf("%s that held %d: %s, and it holds %d", role, n, sentTold(sent), len(got.Held))
			}
			want, out := recTickByHand(r)
			wantRecTicked(t, role, r, want, out)
		}
	})
	// What it says to itself, and what it may not believe itself, goes as it is.
	odd := turnedRecorder(quietRecorder(), func(r *impl.Recorder) {
		r.Held = []impl.RecMessage{{Kind: impl.RecRefuse, From: 2, To: 2}, {Kind: impl.RecPromised, From: 2, To: 1, Ballot: 99, Slots: slotRow("99:x 0:")}}
	})
	wantRecTicks(t, []recTickCase{{"to itself", odd, []recTurn{wishesFor("c", "\x00")}, nil}})
}

// What is known when the tick begins is wished for no more; what is only taken still is.
func TestTicksDropWishes(t *testing.T) {
	row := "3:p 5:q 8:r 7:q 0: 8:u"
	all := []string{"u", "q", "x", "r", "p", "y", "pq"}
	for known, left := range [][]string{
		{"u", "q", "x", "r", "p", "y", "pq"},
		{"u", "q", "x", "r", "y", "pq"},
		{"u", "x", "r", "y", "pq"},
		{"u", "x", "y", "pq"},
		{"u", "x", "y", "pq"},
	} {
		r := turnedRecorder(quietRecorder(), writes(row), knows(known), wishesFor(all...))
		wantRecTicks(t, []recTickCase{{"known " + count(known), r, []recTurn{wishesFor(left...)}, nil}})
	}
	full := turnedRecorder(quietRecorder(), knows(0), func(r *impl.Recorder) { r.Disk.Slots = manySlots(impl.RecMaxSlots, 8) })
	var texts []string
	for _, s := range full.Disk.Slots[impl.RecMaxSlots-impl.RecMaxWishes:] {
		texts = append(texts, s.Text)
	}
	full.Wishes = texts
	wantRecTicks(t, []recTickCase{
		{"all taken, none known", full, nil, nil},
		{"all but the last known", turnedRecorder(full, knows(impl.RecMaxSlots-1)), []recTurn{wishesFor(texts[len(texts)-1:]...)}, nil},
		{"all known", turnedRecorder(full, knows(impl.RecMaxSlots)), []recTurn{wishesFor()}, nil},
	})
	// What was safe is not asked: the disk as it is written tells what is known.
	safe := turnedRecorder(quietRecorder(), wishesFor("safe", "a"), func(r *impl.Recorder) { r.Safe = disk(9, 1, "9:safe") })
	wantRecTicks(t, []recTickCase{{"only safe", safe, []recTurn{wishesFor("safe")}, nil}})
}

// Heard never goes above its bound, and one that leads does not mind how long it has heard of nobody.
func TestTicksAreCounted(t *testing.T) {
	most := impl.RecMaxBallot
	bare := turnedRecorder(leadingRecorder(), wishesFor(), writes("3:a 5:b"))
	for heard, then := range map[int]int{0: 1, 1: 2, 10: 11, 11: 12, most - 2: most - 1, most - 1: most, most: most} {
		r := turnedRecorder(bare, heardTimes(heard))
		wantRecTicks(t, []recTickCase{{"leading, Heard " + count(heard), r, []recTurn{heardTimes(then)}, beats(r, 2)}})
	}
	for _, heard := range []int{0, 1, 8, 9} {
		wantRecTicks(t, []recTickCase{
			{"quiet", turnedRecorder(quietRecorder(), wishesFor(), heardTimes(heard)), nil, nil},
			{"trying, and nobody promises", turnedRecorder(tryingRecorder(), wishesFor(), heardTimes(heard), promises(9)), nil, nil},
		})
	}
}
