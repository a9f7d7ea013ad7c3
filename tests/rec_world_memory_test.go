package tests

import (
	"runtime"
	"slices"
	"testing"

	"loop.example/wharfhall/impl"
)

// memoryRecWorlds are worlds of all sorts with few enough messages to look at each, and ones that are not ok.
func memoryRecWorlds() []impl.RecWorld {
	out := []impl.RecWorld{{}, recCrowd(), meeting(), unnoted(), agreed(), impl.RecNewWorld(1), impl.RecNewWorld(5), holders(2, 0, 3),
		turnedRecWorld(recCrowd(), recorderAt(0, heardTimes(-1))),
		turnedRecWorld(recCrowd(), func(w *impl.RecWorld) { w.Fixed = fixes("2:b 1:a") }),
	}
	d := &dice{state: 2606}
	for range 60 {
		w := diceRecWorld(d)
		w.Flight = w.Flight[:min(len(w.Flight), 8)]
		for i := range w.Recorders {
			r := &w.Recorders[i]
			r.Held = r.Held[:min(len(r.Held), 6)]
			r.Disk.Slots = r.Disk.Slots[:min(len(r.Disk.Slots), 12)]
			r.Disk.Known = min(r.Disk.Known, len(r.Disk.Slots))
		}
		out = append(out, w)
	}
	return out
}

func memoryRecEvents() []impl.RecEvent {
	var out []impl.RecEvent
	for kind := range impl.RecEvWish + 2 {
		for _, a := range []int{-1, 0, 1, 7} {
			out = append(out, impl.RecEvent{Kind: kind, A: a, Text: "asked"})
		}
	}
	return out
}

func TestRecWorldsShareNoMemory(t *testing.T) {
	t.Parallel()
	for _, plain := range memoryRecWorlds() {
		w := withRoom(plain)
		before := opened(w)
		for _, e := range memoryRecEvents() {
			got := impl.RecDo(w, e)
			wantApart(t, recEventTold(e), got, w)
			wantUntouched(t, recEventTold(e), w, before)
			if want := recDoByHand(plain, e); !sameRecWorld(got, want) {
				t.Errorf("with room behind the lists %s is %s,\nnot %s", recEventTold(e), recWorldTold(got), recWorldTold(want))
			}
		}
		// What has grown once grows again, and the first answer is left alone.
		got := impl.RecDo(w, recTickEvent())
		kept := opened(got)
		wantApart(t, "two ticks", []impl.RecWorld{got, impl.RecDo(got, recTickEvent()), impl.RecDo(got, recTickEvent())}, w)
		wantUntouched(t, "an answer", got, kept)
		if t.Failed() {
			return
		}
	}
}

func TestCalmRecWorldsShareNoMemory(t *testing.T) {
	for _, plain := range memoryRecWorlds() {
		w := withRoom(plain)
		before := opened(w)
		for _, rounds := range []int{-1, 0, 1, 2, 9} {
			got := impl.RecCalm(w, rounds)
			wantApart(t, "calm", got, w)
			wantUntouched(t, "calm", w, before)
			if want := recCalmByHand(plain, rounds); !sameRecWorld(got, want) {
				t.Errorf("with room behind the lists %d rounds are %s,\nnot %s", rounds, recWorldTold(got), recWorldTold(want))
			}
		}
		if t.Failed() {
			return
		}
	}
	for n := range impl.RecMaxRecorders + 2 {
		wantApart(t, "new", []impl.RecWorld{impl.RecNewWorld(n), impl.RecNewWorld(n)})
	}
}

func TestAskingRecWorldsWritesNothing(t *testing.T) {
	for _, plain := range memoryRecWorlds() {
		w := withRoom(plain)
		before := opened(w)
		ok, agree := impl.RecWorldOk(w), impl.RecAgree(w)
		if ok != recWorldByHand(plain) || agree != agreeByHand(plain) {
			t.Errorf("with room behind the lists %v, %v of %s", ok, agree, recWorldTold(w))
		}
		for index := range 15 {
			text, is := majorByHand(plain, index)
			wantMajor(t, "with room behind", w, index, text, is)
		}
		wantUntouched(t, "a world that is asked", w, before)
	}
}

// One list may stand in several places of a world; an answer has each on its own.
func TestRecWorldsOfWhatIsSharedAlready(t *testing.T) {
	w := impl.RecNewWorld(3)
	one := disk(8, 1, "3:a 8:b 8:c")
	for i := range w.Recorders {
		w.Recorders[i].Safe, w.Recorders[i].Disk = one, one
		w.Recorders[i].Held = []impl.RecMessage{{Kind: impl.RecPromised, From: i + 1, To: 1, Ballot: 8, Slots: one.Slots}}
		w.Recorders[i].Wishes = []string{"w"}
	}
	w.Recorders[0].Trying, w.Recorders[0].Ballot, w.Recorders[0].Best = true, 8, one.Slots
	w.Flight = slices.Repeat([]impl.RecMessage{{Kind: impl.RecPromised, From: 2, To: 1, Ballot: 8, Slots: one.Slots}}, 3)
	before := opened(w)
	for _, e := range memoryRecEvents() {
		got := recDone(t, "shared", w, e)
		wantApart(t, recEventTold(e), got, w)
	}
	for rounds := range 5 {
		wantApart(t, "calm", wantRecCalm(t, "shared", w, rounds), w)
	}
	wantUntouched(t, "one list in all places", w, before)
}

// A message that was doubled is another one: what becomes of one leaves the other alone.
func TestADoubledMessageIsAnotherOne(t *testing.T) {
	w := impl.RecNewWorld(2)
	w.Flight = []impl.RecMessage{{Kind: impl.RecPromised, From: 2, To: 1, Ballot: 3, Slots: slotRow("1:a 2:b")}}
	got := impl.RecDo(w, recEvent(impl.RecEvDouble, 0))
	got.Flight[0].Slots[0].Text = "spoiled"
	if !slices.Equal(got.Flight[1].Slots, slotRow("1:a 2:b")) || !slices.Equal(w.Flight[0].Slots, slotRow("1:a 2:b")) {
		t.Error(sentTold(got.Flight))
	}
}

func spoilRecWorld(w impl.RecWorld) {
	for _, r := range w.Recorders {
		clear(r.Safe.Slots)
		clear(r.Disk.Slots)
		clear(r.Held)
		clear(r.Wishes)
		clear(r.Acks)
	}
	for _, m := range w.Flight {
		clear(m.Slots)
	}
	clear(w.Recorders)
	clear(w.Flight)
	clear(w.Fixed)
}

// The same call gives the same answer again, whatever was asked between, and though the answer is spoiled.
func TestRecWorldsKeepNothing(t *testing.T) {
	for _, w := range memoryRecWorlds() {
		for _, e := range memoryRecEvents() {
			first := impl.RecDo(w, e)
			kept := copyRecWorld(first)
			impl.RecCalm(first, 2)
			spoilRecWorld(first)
			if again := impl.RecDo(w, e); !sameRecWorld(again, kept) {
				t.Errorf("%s gives %s,\nthen %s", recEventTold(e), recWorldTold(kept), recWorldTold(again))
			}
		}
		first := impl.RecCalm(w, 4)
		kept := copyRecWorld(first)
		spoilRecWorld(first)
		if again := impl.RecCalm(w, 4); !sameRecWorld(again, kept) {
			t.Errorf("calm gives %s,\nthen %s", recWorldTold(kept), recWorldTold(again))
		}
	}
}

// What is answered does not hang on how many recorders can tick at one time.
func TestRecordersWhoTickAtOnce(t *testing.T) {
	defer runtime.GOMAXPROCS(runtime.GOMAXPROCS(0))
	for _, w := range append(memoryRecWorlds(), holders(400, 400, 400, 400, 400), holders(9, 9, 9, 9, 9)) {
		runtime.GOMAXPROCS(1)
		alone, calm := impl.RecDo(w, recTickEvent()), impl.RecCalm(w, 6)
		runtime.GOMAXPROCS(8)
		for range 5 {
			if got := impl.RecDo(w, recTickEvent()); !sameRecWorld(got, alone) {
				t.Errorf("%s,\nand one by one %s", recWorldTold(got), recWorldTold(alone))
			}
			if got := impl.RecCalm(w, 6); !sameRecWorld(got, calm) {
				t.Errorf("%s,\nand one by one %s", recWorldTold(got), recWorldTold(calm))
			}
		}
	}
}

// No recorder goes on ticking behind an answer, though there was no room for what it sent.
func TestRecordersWhoHaveTicked(t *testing.T) {
	before := runtime.NumGoroutine()
	for range 20 {
		impl.RecCalm(recCrowd(), 5)
		impl.RecDo(holders(400, 400, 400, 400, 400), recTickEvent())
	}
	wantNobodyLeft(t, before)
}
