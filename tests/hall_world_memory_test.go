package tests

import (
	"runtime"
	"testing"

	"loop.example/wharfhall/impl"
)

// memoryHallWorlds are worlds of all sorts with few enough messages to look at each, and ones that are not ok.
func memoryHallWorlds() []impl.HallWorld {
	few := rivals()
	few.Rec.Flight = few.Rec.Flight[:3]
	out := []impl.HallWorld{{}, busyWorld(), deskWorld(), lateHall(), few, heardDay(0, 4, 8), chairWorld(crewTexts()...), impl.HallNew(yardHouse(), 5),
		turnedHallWorld(busyWorld(), func(w *impl.HallWorld) { w.Now = -1 }),
		turnedHallWorld(deskWorld(), func(w *impl.HallWorld) { w.House.Grants[0].Number = 2 }),
		turnedHallWorld(deskWorld(), hallRecorderAt(1, heardTimes(-1))),
	}
	d := &dice{state: 3404}
	for len(out) < 30 {
		w, _ := diceHallWorld(d)
		w.Rec.Flight = w.Rec.Flight[:min(len(w.Rec.Flight), 8)]
		for i := range w.Rec.Recorders {
			r := &w.Rec.Recorders[i]
			r.Held = r.Held[:min(len(r.Held), 6)]
			r.Safe.Slots = r.Safe.Slots[:min(len(r.Safe.Slots), 20)]
			r.Disk.Slots = r.Disk.Slots[:min(len(r.Disk.Slots), 20)]
			r.Safe.Known, r.Disk.Known = min(r.Safe.Known, 20), min(r.Disk.Known, 20)
		}
		out = append(out, w)
	}
	return out
}

// memoryHallEvents are events of each Kind, at places that are there and at ones that are not.
func memoryHallEvents(t *testing.T) []impl.HallEvent {
	t.Helper()
	var out []impl.HallEvent
	for kind := range 16 {
		for _, a := range []int{-1, 0, 1, 7} {
			for _, b := range []int{1, 5} {
				e := impl.HallEvent{Kind: kind, A: a, B: b, Door: "d1"}
				e.Ask = askOf(t, "ann make new dock audit,fleet 1,2,,,,")
				e.Entry = readEntry(t, "slip 9 d1 3 web:4,api:5 ann make new dock audit,fleet 1,2,,,,")
				out = append(out, e)
			}
		}
	}
	out = append(out, asksEvent(t, 0, "slip 9 d1 3 * ann give bob 125 service dock w"), throughEvent(t, 0, 4, "ann give bob 125 service dock w"))
	return out
}

func TestHallWorldsShareNoMemory(t *testing.T) {
	t.Parallel()
	events := memoryHallEvents(t)
	for _, plain := range memoryHallWorlds() {
		w := withRoom(plain)
		before := opened(w)
		for _, event := range events {
			e := withRoom(event)
			kept := opened(e)
			got := impl.HallStep(w, e)
			wantApart(t, hallEventTold(e), got, w, e)
			wantUntouched(t, hallEventTold(e), w, before)
			wantUntouched(t, hallEventTold(e), e, kept)
			if want := hallStepByHand(plain, event); !sameHallWorld(got, want) {
				t.Errorf("with room behind the lists %s is %s,\nnot %s", hallEventTold(e), hallWorldTold(got), hallWorldTold(want))
			}
		}
		// What has grown once grows again, and the first answer is left alone.
		ask := asksEvent(t, 0, "time 77")
		got := impl.HallStep(w, ask)
		kept := opened(got)
		wantApart(t, "two asks", []impl.HallWorld{got, impl.HallStep(got, asksEvent(t, 0, "time 78")), impl.HallStep(got, asksEvent(t, 0, "time 79"))}, w)
		wantUntouched(t, "an answer", got, kept)
		if t.Failed() {
			return
		}
	}
}

func TestCalmHallWorldsShareNoMemory(t *testing.T) {
	for _, plain := range memoryHallWorlds() {
		w := withRoom(plain)
		before := opened(w)
		for _, rounds := range []int{-1, 0, 1, 2, 9} {
			got := impl.HallCalm(w, rounds)
			wantApart(t, "calm", got, w)
			wantUntouched(t, "calm", w, before)
			if want := hallCalmByHand(plain, rounds); !sameHallWorld(got, want) {
				t.Errorf("with room behind the lists %d rounds are %s,\nnot %s", rounds, hallWorldTold(got), hallWorldTold(want))
			}
		}
		if t.Failed() {
			return
		}
	}
}

func TestNewHallWorldsShareNoMemory(t *testing.T) {
	for _, plain := range okHouses() {
		h := withRoom(plain)
		before := opened(h)
		for n := range impl.RecMaxRecorders + 2 {
			wantApart(t, "new", []impl.HallWorld{impl.HallNew(h, n), impl.HallNew(h, n)}, h)
			wantUntouched(t, "new", h, before)
		}
	}
	h := yardHouse()
	h.Grants[1].Rule.Verbs = h.Grants[0].Rule.Verbs[:2]
	wantApart(t, "a house in which one list is there twice", impl.HallNew(h, 3), h)
}

func TestAskingHallWorldsWritesNothing(t *testing.T) {
	for _, plain := range memoryHallWorlds() {
		w := withRoom(plain)
		before := opened(w)
		if ok, right, done := impl.HallWorldOk(w), impl.HallRight(w), impl.HallDone(w); ok != hallWorldByHand(plain) || right != rightByHand(plain) || done != doneHallByHand(plain) {
			t.Errorf("with room behind the lists %v, %v, %v of %s", ok, right, done, hallWorldTold(w))
		}
		wantApart(t, "what is fixed", [][]string{impl.HallFixed(w), impl.HallFixed(w)}, w)
		wantFixedTexts(t, "with room behind", w, fixedTextsByHand(plain)...)
		for at := -1; at < 6; at++ {
			wantApart(t, "a view", []impl.HallBook{impl.HallView(w, at), impl.HallView(w, at)}, w)
			wantView(t, "with room behind", w, at, hallViewByHand(plain, at))
		}
		wantUntouched(t, "a world that is asked", w, before)
	}
}

// One list may stand in several places of a world; an answer has each on its own.
func TestHallWorldsOfWhatIsSharedAlready(t *testing.T) {
	w := chairWorld(crewTexts()...)
	w.Rec.Recorders[0].Safe = w.Rec.Recorders[0].Disk
	w.House.Grants[1].Rule.Verbs = w.House.Grants[0].Rule.Verbs[:2]
	w.Rec.Flight = []impl.RecMessage{{Kind: impl.RecPromised, From: 1, To: 1, Ballot: 1, Slots: w.Rec.Recorders[0].Disk.Slots}}
	before := opened(w)
	for _, e := range memoryHallEvents(t) {
		wantApart(t, hallEventTold(e), hallStepped(t, "shared", w, e), w, e)
	}
	for rounds := range 8 {
		wantApart(t, "calm", hallCalmed(t, "shared", w, rounds), w)
	}
	wantUntouched(t, "one list in all places", w, before)
}

// The same call gives the same answer again, whatever was asked between, and though the answer is spoiled.
func TestHallWorldsKeepNothing(t *testing.T) {
	t.Parallel()
	for _, w := range memoryHallWorlds() {
		for _, e := range memoryHallEvents(t) {
			first := impl.HallStep(w, e)
			kept := copyHallWorld(first)
			impl.HallCalm(first, 2)
			spoilHallWorld(first)
			if again := impl.HallStep(w, e); !sameHallWorld(again, kept) {
				t.Errorf("%s gives %s,\nthen %s", hallEventTold(e), hallWorldTold(kept), hallWorldTold(again))
			}
		}
		first := impl.HallCalm(w, 4)
		kept := copyHallWorld(first)
		spoilHallWorld(first)
		if again := impl.HallCalm(w, 4); !sameHallWorld(again, kept) {
			t.Errorf("calm gives %s,\nthen %s", hallWorldTold(kept), hallWorldTold(again))
		}
	}
}

func spoilHallWorld(w impl.HallWorld) {
	spoilRecWorld(w.Rec)
	for _, g := range w.House.Grants {
		clear(g.Rule.Verbs)
	}
	clear(w.House.Teams)
	clear(w.House.Grants)
	clear(w.Asked)
}

// What is answered does not hang on how many hands can be at work at one time.
func TestHandsOfAWorldAtOnce(t *testing.T) {
	defer runtime.GOMAXPROCS(runtime.GOMAXPROCS(0))
	for _, w := range memoryHallWorlds() {
		for _, e := range []impl.HallEvent{recTickHall(), throughEvent(t, 0, 7, "ann end web 0"), hallEvent(impl.HallSteward, 0, 1), hallEvent(impl.HallHear, 0, 1)} {
			runtime.GOMAXPROCS(1)
			alone, calm := impl.HallStep(w, e), impl.HallCalm(w, 8)
			runtime.GOMAXPROCS(8)
			for range 4 {
				if got := impl.HallStep(w, e); !sameHallWorld(got, alone) {
					t.Errorf("%s,\nand one by one %s", hallWorldTold(got), hallWorldTold(alone))
				}
				if got := impl.HallCalm(w, 8); !sameHallWorld(got, calm) {
					t.Errorf("%s,\nand one by one %s", hallWorldTold(got), hallWorldTold(calm))
				}
			}
		}
	}
}

func recTickHall() impl.HallEvent {
	return hallEvent(impl.RecEvTick, 0, 0)
}

// Nobody waits for a question behind an answer, whoever was asked and whoever was not.
func TestNoHandOfAWorldIsLeft(t *testing.T) {
	before := runtime.NumGoroutine()
	for _, w := range memoryHallWorlds() {
		for _, e := range memoryHallEvents(t) {
			impl.HallStep(w, e)
		}
		for rounds := range 4 {
			impl.HallCalm(w, rounds-1)
		}
		impl.HallView(w, 0)
		impl.HallRight(w)
		impl.HallDone(w)
	}
	wantNobodyLeft(t, before)
}
