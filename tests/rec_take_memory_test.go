package tests

import (
	"testing"

	"loop.example/wharfhall/impl"
)

// memoryTakes are recorders and messages for each, whether they are taken or not.
func memoryTakes() (recorders []impl.Recorder, messages []impl.RecMessage) {
	put := func(r impl.Recorder, m impl.RecMessage) {
		recorders, messages = append(recorders, r), append(messages, m)
	}
	for _, r := range []impl.Recorder{quietRecorder(), tryingRecorder(), leadingRecorder(), fallenRecorder(), ackedLeader(), tryingOf(3, 3), tryingOf(5, 1), {}} {
		for _, m := range tellingMessages() {
			put(r, m)
			m.To = 1
			put(r, m)
			m.Kind = 10
			put(r, m)
		}
	}
	d := &dice{state: 2305}
	for range 500 {
		r := diceTaker(d)
		if len(r.Held) > 20 {
			r.Held = r.Held[:d.below(20)]
		}
		put(r, diceLetter(d, r))
	}
	return recorders, messages
}

// The answer shares nothing with what was given, nor any two of its lists with each other; and nothing is written behind an end.
func TestTakesShareNoMemory(t *testing.T) {
	recorders, messages := memoryTakes()
	for i, plain := range recorders {
		r, m := withRoom(plain), withRoom(messages[i])
		beforeR, beforeM := opened(r), opened(m)
		got := impl.RecTake(r, m)
		wantApart(t, "a message", got, r, m)
		wantTaken(t, "with room behind", r, m, takeByHand(plain, messages[i]))
		wished := impl.RecWish(r, m.Text)
		wantApart(t, "a wish", wished, r)
		wantUntouched(t, "a recorder", r, beforeR)
		wantUntouched(t, "a message", m, beforeM)
		// What has grown once grows again, and the first answer is left alone.
		before := opened(got)
		wantApart(t, "two messages", []impl.Recorder{got, impl.RecTake(got, m), impl.RecWish(got, "one-more")}, r, m)
		wantUntouched(t, "an answer", got, before)
		if t.Failed() {
			return
		}
	}
}

// The slots of a message may be those of the recorder that takes it.
func TestTakesOfWhatIsSharedAlready(t *testing.T) {
	r := tryingOf(3, 3)
	r.Best = r.Disk.Slots
	r.Safe = r.Disk
	m := impl.RecMessage{Kind: impl.RecPromised, From: 1, To: 3, Ballot: 8, Slots: r.Disk.Slots}
	beforeR, beforeM := opened(r), opened(m)
	got := impl.RecTake(r, m)
	wantApart(t, "one list in all places", got, r, m)
	wantUntouched(t, "a recorder", r, beforeR)
	wantUntouched(t, "a message", m, beforeM)
	if want := turnedRecorder(r, leads, writes("3:a 5:b 8: 8:d")); !sameRecorder(got, want) {
		t.Errorf("%s, not %s", recorderTold(got), recorderTold(want))
	}
	wantApart(t, "a promise of them", impl.RecTake(r, impl.RecMessage{Kind: impl.RecPrepare, From: 1, To: 3, Ballot: 9}), r)
}

// The same call gives the same again, whatever was taken between.
func TestTakesKeepNothing(t *testing.T) {
	recorders, messages := memoryTakes()
	first := make([]impl.Recorder, len(recorders))
	for i := range recorders {
		first[i] = impl.RecTake(recorders[i], messages[i])
	}
	for i := len(recorders) - 1; i >= 0; i-- {
		if again := impl.RecTake(recorders[i], messages[i]); !sameRecorder(again, first[i]) {
			t.Errorf("%s, and then %s", recorderTold(first[i]), recorderTold(again))
		}
	}
}
