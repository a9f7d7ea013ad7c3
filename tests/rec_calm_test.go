package tests

import (
	"testing"

	"loop.example/wharfhall/impl"
)

func TestHowManyRecRoundsGoBy(t *testing.T) {
	for _, w := range []impl.RecWorld{recCrowd(), meeting(), unnoted(), impl.RecNewWorld(1)} {
		for _, rounds := range []int{-1 << 62, -1000, -1, 0} {
			if got := wantRecCalm(t, "none", w, rounds); !sameRecWorld(got, w) {
				t.Errorf("%d rounds: %s", rounds, recWorldTold(got))
			}
		}
		for _, rounds := range []int{1, 2, 3, 8, 20} {
			wantRecCalm(t, "some", w, rounds)
		}
	}
	// One that is down, with another that cannot lead alone: as many ticks as there are rounds are to be seen in its promise.
	w := recDone(t, "a fall", impl.RecNewWorld(2), recEvent(impl.RecEvFall, 1))
	for _, rounds := range []int{1, 7, 8, 9, 500, impl.RecMaxCalm - 1, impl.RecMaxCalm} {
		got := impl.RecCalm(w, rounds)
		r := got.Recorders[0]
		// Each eighth tick it tries anew, under the next ballot of its own, which is two more.
		if tries := rounds / 8; r.Heard != rounds%8 || r.Disk.Promise != max(0, 2*tries-1) || r.Trying != (tries > 0) || r.Lead {
			t.Errorf("%d rounds: %s", rounds, recorderTold(r))
		}
	}
	most := impl.RecCalm(w, impl.RecMaxCalm)
	for _, rounds := range []int{impl.RecMaxCalm + 1, impl.RecMaxCalm + 8, 2 * impl.RecMaxCalm, 1<<63 - 1} {
		if got := impl.RecCalm(w, rounds); !sameRecWorld(got, most) {
			t.Errorf("%d rounds: %s,\nnot %s", rounds, recWorldTold(got), recWorldTold(most))
		}
	}
}

func TestManyRecRounds(t *testing.T) {
	w := impl.RecNewWorld(3)
	for _, rounds := range []int{impl.RecMaxCalm - 1, impl.RecMaxCalm, impl.RecMaxCalm + 1} {
		wantRecCalm(t, "many", recDone(t, "a wish", w, recWishEvent(1, "x")), rounds)
	}
}

// A round brings what was in flight behind the tick, in order, and no more: what a message makes somebody send waits for
// the next tick, so that a flight never grows while it is brought.
func TestWhatARoundBrings(t *testing.T) {
	w := impl.RecNewWorld(3)
	w.Flight = []impl.RecMessage{
		{Kind: impl.RecPrepare, From: 2, To: 1, Ballot: 2},
		{Kind: impl.RecPrepare, From: 3, To: 1, Ballot: 3},
		{Kind: impl.RecPrepare, From: 2, To: 3, Ballot: 2},
		{Kind: impl.RecAccept, From: 3, To: 2, Ballot: 3, Index: 1, Text: "a"},
	}
	got := wantRecCalm(t, "a round", w, 1)
	if len(got.Flight) != 0 || len(got.Recorders[0].Held) != 2 || len(got.Recorders[1].Held) != 1 || len(got.Recorders[2].Held) != 1 {
		t.Fatal(recWorldTold(got))
	}
	// It took the ballot 2 ahead of the ballot 3: the other way around it would have refused one.
	for i, m := range got.Recorders[0].Held {
		if m.Kind != impl.RecPromised || m.Ballot != 2+i {
			t.Errorf("%d: %s", i, messageTold(m))
		}
	}
	next := recDone(t, "the next tick", got, recTickEvent())
	if len(next.Flight) != 4 {
		t.Error(sentTold(next.Flight))
	}
	again := wantRecCalm(t, "the next round", got, 1)
	if len(again.Flight) != 0 {
		t.Error(sentTold(again.Flight))
	}
}

// A flight that is full leaves a tick no room; the round empties it, and the next one has all of it.
func TestRoundsOfAFullFlight(t *testing.T) {
	for before := impl.RecMaxFlight - 5; before <= impl.RecMaxFlight; before++ {
		w := holders(3, 3, 3)
		w.Flight = plainFlight(before)
		got := wantRecCalm(t, "a full flight", w, 1)
		taken := 0
		for _, r := range got.Recorders {
			taken += len(r.Wishes)
		}
		if taken != impl.RecMaxFlight-before || len(got.Flight) != 0 {
			t.Errorf("with %d ahead %d were taken: %s", before, taken, recWorldTold(got))
		}
		wantRecCalm(t, "a full flight", w, 12)
	}
	for _, counts := range [][]int{{400, 400}, {400, 400, 400, 400, 400}} {
		wantRecCalm(t, "all that they can hold", holders(counts...), 2)
	}
}

// What comes to be known in the midst of a round is noted then, though it be another text later: the first who knows a
// place decides what is fixed for it, if most have nothing.
func TestWhatARoundNotes(t *testing.T) {
	w := impl.RecNewWorld(3)
	for _, at := range []int{1, 2} {
		w.Recorders[at].Disk.Promise = 4
	}
	w.Flight = []impl.RecMessage{
		{Kind: impl.RecChosen, From: 1, To: 3, Ballot: 4, Index: 1, Text: "third"},
		{Kind: impl.RecChosen, From: 1, To: 2, Ballot: 4, Index: 1, Text: "second"},
		{Kind: impl.RecChosen, From: 1, To: 2, Ballot: 4, Index: 2, Text: "more"},
	}
	got := wantRecCalm(t, "two texts", w, 1)
	wantFixed(t, "two texts", got, "1:third 2:more")
	wantAgree(t, "two texts", got, false)
	// Behind the flight alone it would be the other one.
	w.Flight[0], w.Flight[1] = w.Flight[1], w.Flight[0]
	wantFixed(t, "turned around", wantRecCalm(t, "turned around", w, 1), "1:second 2:more")
	wantFixed(t, "a world that was not noted", wantRecCalm(t, "not noted", unnoted(), 1), "1:a 2:y 3:m")
}

// In calm, a wish comes to all; one that falls leaves the others to it, and learns when it is back.
func TestCalmRecorders(t *testing.T) {
	w := impl.RecNewWorld(5)
	for at := range 5 {
		w = recDone(t, "a wish", w, recWishEvent(at, "w"+count(at)))
	}
	w = wantRecCalm(t, "all are up", w, 25)
	wantFixed(t, "all are up", w, "1:w0 2:w1 3:w2 4:w3 5:w4")
	for _, r := range w.Recorders {
		wantRecBook(t, "all are up", r, "w0", "w1", "w2", "w3", "w4")
	}
	for _, at := range []int{0, 3} {
		w = recDone(t, "a fall", w, recEvent(impl.RecEvFall, at))
	}
	w = wantRecCalm(t, "three are up", recDone(t, "a wish", w, recWishEvent(4, "late")), 30)
	wantFixed(t, "three are up", w, "1:w0 2:w1 3:w2 4:w3 5:w4 6:late")
	wantRecBook(t, "a fallen one", w.Recorders[0], "w0", "w1", "w2", "w3", "w4")
	two := wantRecCalm(t, "two are up", recDone(t, "a wish", recDone(t, "a fall", w, recEvent(impl.RecEvFall, 1)), recWishEvent(4, "in vain")), 60)
	wantFixed(t, "two are up", two, "1:w0 2:w1 3:w2 4:w3 5:w4 6:late")
	w = recDone(t, "a rise", recDone(t, "a rise", w, recEvent(impl.RecEvRise, 0)), recEvent(impl.RecEvRise, 3))
	w = wantRecCalm(t, "all are up again", w, 30)
	for _, r := range w.Recorders {
		wantRecBook(t, "all are up again", r, "w0", "w1", "w2", "w3", "w4", "late")
	}
	wantAgree(t, "all are up again", w, true)
}
