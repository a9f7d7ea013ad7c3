package tests

import (
	"testing"

	"loop.example/wharfhall/impl"
)

func wantFallen(t *testing.T, what string, r, want impl.Recorder) {
	t.Helper()
	if hand := fallByHand(r); !sameRecorder(hand, want) {
		t.Errorf("%s: by hand a fall of %s\nis %s,\nnot %s", what, recorderTold(r), recorderTold(hand), recorderTold(want))
	}
	if got := impl.RecFall(r); !sameRecorder(got, want) {
		t.Errorf("%s: a fall of %s\nis %s,\nnot %s", what, recorderTold(r), recorderTold(got), recorderTold(want))
	}
}

func wantRisen(t *testing.T, what string, r, want impl.Recorder) {
	t.Helper()
	if hand := riseByHand(r); !sameRecorder(hand, want) {
		t.Errorf("%s: by hand a rise of %s\nis %s,\nnot %s", what, recorderTold(r), recorderTold(hand), recorderTold(want))
	}
	if got := impl.RecRise(r); !sameRecorder(got, want) {
		t.Errorf("%s: a rise of %s\nis %s,\nnot %s", what, recorderTold(r), recorderTold(got), recorderTold(want))
	}
}

// Of all that one has, Up or not, a fall leaves what was safe, and who it is.
func TestFalls(t *testing.T) {
	for what, make := range validRecorders() {
		fallen := impl.Recorder{Number: 2, Of: 3, Safe: disk(5, 1, "3:a 0:"), Disk: disk(5, 1, "3:a 0:")}
		wantRecorder(t, what+", fallen", fallen, true)
		wantFallen(t, what, make(), fallen)
		wantFallen(t, what+", twice", impl.RecFall(make()), fallen)
		risen := turnedRecorder(fallen, func(r *impl.Recorder) { r.Up = true })
		wantRisen(t, what+", fallen", impl.RecFall(make()), risen)
		wantFallen(t, what+", risen", risen, fallen)
	}
}

// By a fall the disk is what was safe, be it less, more, or something else; and that stays safe.
func TestFallsLeaveWhatWasSafe(t *testing.T) {
	for what, safe := range map[string]impl.RecDisk{
		"nothing":       {},
		"the disk":      disk(8, 2, "3:a 5:b 0: 8:"),
		"less known":    disk(8, 1, "3:a 5:b 0: 8:"),
		"fewer slots":   disk(8, 2, "3:a 5:b"),
		"other texts":   disk(8, 2, "3:a 5:c 0: 8:d"),
		"more promised": disk(impl.RecMaxBallot, 2, "3:a 5:b"),
		"more slots":    {Promise: 9, Known: impl.RecMaxSlots, Slots: manySlots(impl.RecMaxSlots, 9)},
	} {
		for role, make := range validRecorders() {
			r := turnedRecorder(make(), func(r *impl.Recorder) { r.Safe = safe })
			wantFallen(t, role+", safe is "+what, r, impl.Recorder{Number: 2, Of: 3, Safe: safe, Disk: safe})
			if got := impl.RecFall(r); !sameDisk(got.Disk, r.Safe) || !sameDisk(got.Safe, r.Safe) || got.Up {
				t.Errorf("%s, safe is %s: %s", role, what, recorderTold(got))
			}
		}
	}
	for of := 1; of <= impl.RecMaxRecorders; of++ {
		for number := 1; number <= of; number++ {
			wantFallen(t, "new", impl.RecNew(number, of), impl.Recorder{Number: number, Of: of})
			wantRisen(t, "fallen at once", impl.RecFall(impl.RecNew(number, of)), impl.RecNew(number, of))
			r := turnedRecorder(quietRecorder(), isNumber(number, of))
			wantFallen(t, "one of "+count(of), r, impl.Recorder{Number: number, Of: of, Safe: r.Safe, Disk: r.Safe})
		}
	}
}

// Who is Up already stays what it is; who is not is Up, with its disks as they are, though it never fell.
func TestRises(t *testing.T) {
	for _, make := range upRecorders() {
		wantRisen(t, "Up already", make(), make())
	}
	r := fallenRecorder()
	wantRisen(t, "two disks", r, turnedRecorder(r, func(r *impl.Recorder) { r.Up = true }))
	wantRisen(t, "nothing on disk", impl.Recorder{Number: 4, Of: 5}, impl.RecNew(4, 5))
}

// What was not safe is lost: a tick more, and it is not.
func TestFallsAfterATick(t *testing.T) {
	r := impl.RecTake(impl.RecNew(2, 3), impl.RecMessage{Kind: impl.RecAccept, From: 1, To: 2, Ballot: 4, Index: 1, Text: "a"})
	wantFallen(t, "ahead of the tick", r, impl.Recorder{Number: 2, Of: 3})
	ticked, sent := impl.RecTick(r)
	wantFallen(t, "behind the tick", ticked, impl.Recorder{Number: 2, Of: 3, Safe: disk(4, 0, "4:a"), Disk: disk(4, 0, "4:a")})
	if want := []impl.RecMessage{{Kind: impl.RecAccepted, From: 2, To: 1, Ballot: 4, Index: 1}}; !sameSent(sent, want) {
		t.Errorf("the tick %s", sentTold(sent))
	}
}
