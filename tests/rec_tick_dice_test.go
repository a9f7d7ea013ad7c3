package tests

import (
	"testing"

	"loop.example/wharfhall/impl"
)

// diceTicker is a valid recorder near what a tick looks at: its patience, its promise, who promised, and how much room there is.
func diceTicker(d *dice) impl.Recorder {
	r := diceTaker(d)
	if !r.Up {
		return r
	}
	r.Heard = min(oneOf(d, r.Heard, d.below(30), 4+3*r.Number-1, 4+3*r.Number, 4+3*r.Number+1), impl.RecMaxBallot)
	if d.below(8) == 0 {
		r.Disk.Promise = impl.RecMaxBallot - d.below(r.Of+1)
		for i := range r.Disk.Slots {
			r.Disk.Slots[i].Ballot = min(r.Disk.Slots[i].Ballot, r.Disk.Promise)
		}
		if r.Lead || r.Trying {
			r.Ballot = oneOf(d, min(r.Ballot, r.Disk.Promise), r.Disk.Promise)
		}
	}
	if r.Trying && d.below(4) > 0 {
		r.Ballot = r.Disk.Promise
	}
	if r.Lead && d.below(5) == 0 {
		more := impl.RecMaxSlots - d.below(4) - len(r.Disk.Slots)
		r.Disk.Slots = append(r.Disk.Slots, diceSlots(d, max(0, more), r.Disk.Promise)...)
	}
	if d.below(3) == 0 {
		r.Safe = copyRecorder(r).Disk
	}
	return r
}

// wantValidTicked is promises 26 and 27 of a tick.
func wantValidTicked(t *testing.T, what string, r, got impl.Recorder, sent []impl.RecMessage) {
	t.Helper()
	wantValidSent(t, what, r, got, sent)
	if got.Disk.Promise < r.Disk.Promise || got.Disk.Known < r.Disk.Known {
		t.Fatalf("%s: the disk of %s has gone back to that of %s", what, recorderTold(r), recorderTold(got))
	}
	if r.Up && !sameDisk(got.Safe, r.Disk) || !r.Up && !sameDisk(got.Safe, r.Safe) {
		t.Fatalf("%s: %s ticked, and safe is now %+v", what, recorderTold(r), got.Safe)
	}
}

// wantValidSent is promise 26: what a valid recorder becomes is valid, and all that it sends and holds is ok, and its own.
func wantValidSent(t *testing.T, what string, r, got impl.Recorder, sent []impl.RecMessage) {
	t.Helper()
	if !impl.RecValid(got) || !recorderByHand(got) {
		t.Fatalf("%s: %s became %s, which is not valid", what, recorderTold(r), recorderTold(got))
	}
	for _, m := range append(sent[:len(sent):len(sent)], got.Held...) {
		if !impl.RecMessageOk(m, got.Of) || !messageByHand(m, got.Of) || m.From != got.Number {
			t.Fatalf("%s: %s sends or holds %s", what, recorderTold(r), messageTold(m))
		}
	}
	if got.Number != r.Number || got.Of != r.Of {
		t.Fatalf("%s: %s has become another one: %s", what, recorderTold(r), recorderTold(got))
	}
}

// ticksSeen names what a tick did beside what every tick does.
func ticksSeen(r, got impl.Recorder, sent []impl.RecMessage) []string {
	var seen []string
	add := func(what string, is bool) {
		if is {
			seen = append(seen, what)
		}
	}
	add("not Up", !r.Up)
	add("safe was another", r.Up && !sameDisk(r.Safe, r.Disk))
	add("sent what was held", len(r.Held) > 0)
	add("dropped a wish", len(got.Wishes) < len(r.Wishes))
	add("promised itself, and tries on", got.Trying && got.Ballot == r.Ballot && len(got.Yes) > len(r.Yes))
	add("promised itself, and leads", r.Trying && got.Lead)
	add("could not promise itself", r.Trying && got.Trying && r.Disk.Promise > r.Ballot && got.Ballot == r.Ballot)
	add("knows more", got.Disk.Known > r.Disk.Known)
	add("knows much more", got.Disk.Known > r.Disk.Known+1)
	add("took something", len(got.Acks) > len(r.Acks))
	add("brought in a wish", len(got.Disk.Slots) > len(r.Disk.Slots))
	add("was full", got.Lead && len(got.Disk.Slots) == impl.RecMaxSlots && len(got.Wishes) > 0)
	add("leads and sends places", got.Lead && len(sent) > len(r.Held)+r.Of-1)
	add("waits", r.Up && !got.Lead && got.Heard > 0)
	add("tries anew", got.Trying && got.Ballot > r.Disk.Promise)
	add("has no next ballot", r.Up && !got.Lead && !got.Trying && got.Heard == 0)
	return seen
}

func TestDrawnTicks(t *testing.T) {
	t.Parallel()
	d := &dice{state: 2401}
	seen := map[string]int{}
	for range 25000 {
		r := diceTicker(d)
		kept := copyRecorder(r)
		want, out := recTickByHand(r)
		wantRecTicked(t, "drawn", r, want, out)
		got, sent := impl.RecTick(r)
		wantValidTicked(t, "drawn", r, got, sent)
		if !sameRecorder(r, kept) {
			t.Fatalf("%s was written into: it was %s", recorderTold(r), recorderTold(kept))
		}
		for _, what := range ticksSeen(r, got, sent) {
			seen[what]++
		}
		if t.Failed() {
			return
		}
	}
	if len(seen) != 16 {
		t.Errorf("the dice showed too little: %v", seen)
	}
	for what, n := range seen {
		if n < 100 {
			t.Errorf("the dice showed too little of one that %s: %d", what, n)
		}
	}
}

func TestDrawnTicksOfWhatIsTurned(t *testing.T) {
	t.Parallel()
	d := &dice{state: 2402}
	seen := map[bool]int{}
	for range 15000 {
		r := diceTicker(d)
		turnRecorder(d, &r)
		seen[recorderByHand(r)]++
		want, out := recTickByHand(r)
		wantRecTicked(t, "turned", r, want, out)
		wantFallen(t, "turned", r, fallByHand(r))
		wantRisen(t, "turned", r, riseByHand(r))
		if t.Failed() {
			return
		}
	}
	if seen[true] < 2000 || seen[false] < 2000 {
		t.Errorf("the dice showed too little: %v", seen)
	}
}

// By a fall the disk is what was safe, which stays so; all else is as in one that is new and not Up.
func TestDrawnFalls(t *testing.T) {
	t.Parallel()
	d := &dice{state: 2501}
	for range 10000 {
		r := diceTicker(d)
		got := impl.RecFall(r)
		wantFallen(t, "drawn", r, fallByHand(r))
		wantValidSent(t, "a fall", r, got, nil)
		if got.Up || !sameDisk(got.Disk, r.Safe) || !sameDisk(got.Safe, r.Safe) {
			t.Fatalf("%s fell: %s", recorderTold(r), recorderTold(got))
		}
		risen := impl.RecRise(r)
		wantRisen(t, "drawn", r, riseByHand(r))
		wantValidSent(t, "a rise", r, risen, nil)
		if !risen.Up || !sameDisk(risen.Disk, r.Disk) || !sameDisk(risen.Safe, r.Safe) {
			t.Fatalf("%s rose: %s", recorderTold(r), recorderTold(risen))
		}
		if again := impl.RecRise(got); !sameRecorder(impl.RecFall(again), got) || !again.Up || len(again.Held)+len(again.Wishes) != 0 {
			t.Fatalf("%s fell and rose: %s", recorderTold(r), recorderTold(again))
		}
		if t.Failed() {
			return
		}
	}
}
