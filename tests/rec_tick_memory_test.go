package tests

import (
	"testing"

	"loop.example/wharfhall/impl"
)

// memoryTickers are recorders of all roles, with few enough messages to look at each.
func memoryTickers() []impl.Recorder {
	out := []impl.Recorder{{}, {Up: true}, quietRecorder(), tryingRecorder(), leadingRecorder(), fallenRecorder(), ackedLeader(), impl.RecNew(1, 1)}
	out = append(out,
		turnedRecorder(quietRecorder(), heardTimes(500)),
		turnedRecorder(tryingRecorder(), heardTimes(500), promises(9)),
		turnedRecorder(tryingOf(5, 2), wishesFor("a", "w")),
		turnedRecorder(tryingOf(3, 2), wishesFor("a", "w"), merges("1:p 1:q 7:r 7:s 7:t")),
		turnedRecorder(bareTrying(1, 1), writes("8:a 8:b 3:c"), wishesFor("a", "w")),
		turnedRecorder(leadingRecorder(), func(r *impl.Recorder) { r.Disk.Known = 9 }),
	)
	d := &dice{state: 2403}
	for range 400 {
		r := diceTicker(d)
		r.Held = r.Held[:min(len(r.Held), d.below(12))]
		r.Disk.Slots = r.Disk.Slots[:min(len(r.Disk.Slots), 20)]
		r.Disk.Known = min(r.Disk.Known, len(r.Disk.Slots))
		out = append(out, r)
	}
	return out
}

// tickAnswer is all that a tick gives.
type tickAnswer struct {
	Recorder impl.Recorder
	Sent     []impl.RecMessage
}

func recTickOf(r impl.Recorder) tickAnswer {
	next, sent := impl.RecTick(r)
	return tickAnswer{next, sent}
}

func TestTicksShareNoMemory(t *testing.T) {
	for _, plain := range memoryTickers() {
		r := withRoom(plain)
		before := opened(r)
		got := recTickOf(r)
		wantApart(t, "a tick", got, r)
		wantUntouched(t, "a recorder that ticks", r, before)
		want, out := recTickByHand(plain)
		wantRecTicked(t, "with room behind", r, want, out)
		// What has grown once grows again, and the first answer is left alone.
		kept := opened(got)
		wantApart(t, "two ticks", []tickAnswer{got, recTickOf(got.Recorder), recTickOf(got.Recorder)}, r)
		wantUntouched(t, "an answer", got, kept)
		if t.Failed() {
			return
		}
	}
}

func TestFallsShareNoMemory(t *testing.T) {
	for _, plain := range memoryTickers() {
		r := withRoom(plain)
		before := opened(r)
		wantApart(t, "falls and rises", []impl.Recorder{impl.RecFall(r), impl.RecRise(r), impl.RecFall(r), impl.RecRise(impl.RecFall(r))}, r)
		wantUntouched(t, "a recorder that falls", r, before)
		wantFallen(t, "with room behind", r, fallByHand(plain))
		wantRisen(t, "with room behind", r, riseByHand(plain))
		if t.Failed() {
			return
		}
	}
}

// One list may stand in several places of what is given; an answer has each on its own.
func TestTicksOfWhatIsSharedAlready(t *testing.T) {
	r := tryingOf(3, 1)
	r.Best, r.Safe = r.Disk.Slots, r.Disk
	r.Held = []impl.RecMessage{{Kind: impl.RecPromised, From: 3, To: 1, Ballot: 8, Slots: r.Disk.Slots}}
	before := opened(r)
	got := recTickOf(r)
	wantApart(t, "a tick", got, r)
	wantApart(t, "a fall", impl.RecFall(r), r)
	wantApart(t, "a rise", impl.RecRise(r), r)
	wantUntouched(t, "one list in all places", r, before)
	if want, sent := recTickByHand(r); !sameRecorder(got.Recorder, want) || !sameSent(got.Sent, sent) || !want.Lead {
		t.Errorf("%s, not %s", recorderTold(got.Recorder), recorderTold(want))
	}
}

// The same call gives the same again, whatever ticked, fell or rose between.
func TestTicksKeepNothing(t *testing.T) {
	list := memoryTickers()
	first := make([]tickAnswer, len(list))
	for i, r := range list {
		first[i] = recTickOf(r)
		impl.RecFall(r)
		impl.RecNextBallot(i, 1, 3)
	}
	for i := len(list) - 1; i >= 0; i-- {
		if again := recTickOf(list[i]); !sameRecorder(again.Recorder, first[i].Recorder) || !sameSent(again.Sent, first[i].Sent) {
			t.Errorf("%s, and then %s", recorderTold(first[i].Recorder), recorderTold(again.Recorder))
		}
	}
}
