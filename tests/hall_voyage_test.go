package tests

import (
	"slices"
	"strings"
	"testing"

	"loop.example/wharfhall/impl"
)

// P42 and P45, over many drawn houses and rows of events, each beside the document's words.
func TestDrawnHallVoyages(t *testing.T) {
	t.Parallel()
	d := &dice{state: 4201}
	seen := map[string]int{}
	for n := range 60 {
		v := newHallVoyage(d, 1+n%impl.RecMaxRecorders, seen)
		v.begin(t, d)
		for range 4 {
			v.sail(t, d, 100, v.do)
			v.calm(t, d.below(14))
		}
		seen["fixed at the end"] += len(impl.HallFixed(v.w))
		wantRight(t, "at the end", v.w, true)
		wantHallDone(t, "at the end", v.w, doneHallByHand(v.w))
		for at := range v.w.Rec.Recorders {
			wantView(t, "at the end", v.w, at, hallViewByHand(v.w, at))
		}
		if t.Failed() {
			return
		}
	}
	wantSeen(t, seen, 20, "the Kind 1", "the Kind 2", "the Kind 3", "the Kind 4", "the Kind 5", "the Kind 6", "the Kind 11", "the Kind 12", "the Kind 13", "the Kind 14",
		"rounds", "asked", "asked enough", "fixed", "fixed at the end", "heard 0", "heard 1", "asked behind an answer", "asked once more")
}

// The same, where all is brought that is sent, and much is asked and heard.
func TestDrawnHallVoyagesInFairWeather(t *testing.T) {
	t.Parallel()
	d := &dice{state: 4202}
	seen := map[string]int{}
	for n := range 40 {
		v := newHallVoyage(d, 1+n%impl.RecMaxRecorders, seen)
		v.mild = true
		v.begin(t, d)
		fair := weather{tick: 1, bring: 1, near: 1, fall: 1, rise: 4, wish: 60}
		for range 40 {
			v.do(t, v.event(d, fair))
			if d.below(3) == 0 {
				v.calm(t, 1+d.below(5))
			}
		}
		for b := range v.w.Asked {
			v.do(t, hallEvent(impl.HallHear, d.below(len(v.w.Rec.Recorders)), b))
		}
		wantRight(t, "at the end", v.w, true)
		if t.Failed() {
			return
		}
	}
	wantSeen(t, seen, 20, "the Kind 11", "the Kind 12", "the Kind 13", "the Kind 14", "fixed", "heard 0", "heard 1", "asked behind an answer")
}

// mayRest says whether promise 44 speaks of a world: all are Up, there is not too much, and nothing is near its end.
func mayRest(w impl.HallWorld) bool {
	for _, r := range w.Rec.Recorders {
		if !r.Up || len(r.Disk.Slots) > 20 || len(r.Wishes) > 20 || r.Disk.Promise > impl.RecMaxBallot-10000 {
			return false
		}
	}
	return true
}

// isSmall says whether, by what promise 44 asks for behind the rounds, all is to be done then.
func isSmall(w impl.HallWorld) bool {
	for at, r := range w.Rec.Recorders {
		b := impl.HallView(w, at).Stew
		free := slices.ContainsFunc(b.Berths, func(x impl.StewBerth) bool { return !x.Drain })
		if len(r.Disk.Slots) == impl.RecMaxSlots || !free || len(b.Services) > 4 || slices.ContainsFunc(b.Services, isGreat) {
			return false
		}
	}
	return true
}

func isGreat(s impl.StewService) bool {
	return s.Want > 3 || s.Most > 3 || s.Over > 2
}

// hasLeftovers says whether one that is Up has taken something, behind all that it knows, for a place for which the one
// that leads has nothing.
func hasLeftovers(w impl.HallWorld) bool {
	lead := slices.IndexFunc(w.Rec.Recorders, func(r impl.Recorder) bool { return r.Lead })
	return lead >= 0 && slices.ContainsFunc(w.Rec.Recorders, func(r impl.Recorder) bool {
		return r.Up && len(r.Disk.Slots) > len(w.Rec.Recorders[lead].Disk.Slots)
	})
}

// withoutLeftovers are the disks with what is known alone.
func withoutLeftovers(w *impl.HallWorld) {
	for i := range w.Rec.Recorders {
		for _, disk := range []*impl.RecDisk{&w.Rec.Recorders[i].Safe, &w.Rec.Recorders[i].Disk} {
			disk.Slots = disk.Slots[:disk.Known]
		}
	}
}

// wantHallRest is promise 44 of a world of which it speaks; it tells what became of it. Where one has taken what no leader
// behind heard of, chapter 35 says that it is not done, and nothing comes that would turn this: then all but that is done.
func wantHallRest(t *testing.T, w impl.HallWorld) (impl.HallWorld, string) {
	t.Helper()
	if !mayRest(w) {
		return w, "too much"
	}
	end := impl.HallCalm(w, 480)
	if !impl.HallRight(end) {
		t.Fatalf("480 rounds of %s\nled to %s,\nwhich is not right", hallWorldTold(w), hallWorldTold(end))
	}
	if !isSmall(end) {
		return end, "too great"
	}
	told := "rest"
	if hasLeftovers(end) {
		wantHallDone(t, "with leftovers", end, false)
		withoutLeftovers(&end)
		told = "leftovers"
	}
	if !impl.HallDone(end) {
		t.Fatalf("480 rounds of %s\nled to %s,\nwhich is not done", hallWorldTold(w), hallWorldTold(end))
	}
	for _, rounds := range []int{1, 2, 3, 40} {
		later := impl.HallCalm(end, rounds)
		if !impl.HallDone(later) || !slices.EqualFunc(later.Rec.Recorders, end.Rec.Recorders, sameKnown) {
			t.Fatalf("%d rounds of %s\nled to %s,\nwhich is not as it was", rounds, hallWorldTold(end), hallWorldTold(later))
		}
	}
	return end, told
}

func sameKnown(a, b impl.Recorder) bool {
	return slices.Equal(impl.RecBook(a), impl.RecBook(b))
}

// roundsToRest is behind how many rounds a world that comes to rest is done.
func roundsToRest(w impl.HallWorld) int {
	rounds := 0
	for ; rounds < 480 && !impl.HallDone(w); rounds++ {
		w = impl.HallCalm(w, 1)
	}
	return rounds
}

// P44, over many drawn houses and rows of events.
func TestDrawnHallVoyagesComeToRest(t *testing.T) {
	t.Parallel()
	d := &dice{state: 4401}
	seen := map[string]int{}
	texts, rounds := 0, 0
	for n := range 250 {
		v := newHallVoyage(d, 1+n%impl.RecMaxRecorders, seen)
		v.mild = true
		v.begin(t, d)
		v.sail(t, d, 40+d.below(200), v.pass)
		v.raise(t, d)
		end, told := wantHallRest(t, v.w)
		seen[told]++
		if told == "rest" {
			texts = max(texts, len(impl.HallFixed(end)))
			rounds = max(rounds, roundsToRest(v.w))
			seen["copies"] += len(impl.HallView(end, 0).Stew.Copies)
			seen["under way"] += len(v.w.Rec.Flight)
		}
		if n%25 == 0 {
			hallCalmed(t, "to rest", v.w, 480)
		}
	}
	wantSeen(t, seen, 200, "rest", "copies", "under way")
	if texts < 20 || rounds < 40 {
		t.Errorf("the dice showed too little: %d texts, %d rounds", texts, rounds)
	}
}

// fullHall asks for about as much as promise 44 lets there be: four services with three copies each, so many of which may
// be over, and, some rounds later, for other images of all of them, more load, and another berth in place of the first.
func fullHall(t *testing.T, of, over, between int) impl.HallWorld {
	t.Helper()
	w := impl.HallNew(yardHouse(), of)
	ask := func(told ...string) {
		for i, text := range told {
			w = impl.HallStep(w, asksEvent(t, i%of, strings.ReplaceAll(text, "OVER", count(over))))
		}
	}
	ask("sea 1 raise a", "slip 1 d1 3 * ann make api dock fleet 1,3,,OVER,,", "slip 1 d1 3 * ann make db dock fleet 1,3,1,OVER,,",
		"slip 1 d1 3 * ann make log dock fleet 1,3,,OVER,10,", "slip 1 d1 3 * ann make web dock fleet 1,3,,OVER,,")
	w = impl.HallCalm(w, between)
	ask("sea 1 raise b", "sea 1 drain a", "sea 1 load log 30", "slip 2 d1 3 * ann change api 0 2,3,,OVER,,", "slip 2 d1 3 * ann change db 0 2,3,,OVER,,",
		"slip 2 d1 3 * ann change log 0 2,3,,OVER,10,", "slip 2 d1 3 * ann change web 0 2,3,,OVER,,")
	return w
}

func TestFullHallsComeToRest(t *testing.T) {
	t.Parallel()
	texts, rounds := 0, 0
	for of := 1; of <= impl.RecMaxRecorders; of++ {
		for between := 0; between <= 60; between += 6 {
			w := fullHall(t, of, 1+between/6%2, between)
			end, told := wantHallRest(t, w)
			if told != "rest" {
				t.Errorf("of %d, behind %d rounds: %s", of, between, told)
			}
			texts, rounds = max(texts, len(impl.HallFixed(end))), max(rounds, roundsToRest(w))
		}
	}
	if texts < 40 || rounds < 80 {
		t.Errorf("the longest row has %d texts, and took %d rounds", texts, rounds)
	}
}

// Though some are down, what is asked comes to rest with more than half of them; the others learn when they are back.
func TestHallsComeToRestThoughSomeAreDown(t *testing.T) {
	for of, fallen := range map[int][]int{3: {0}, 4: {2}, 5: {0, 3}} {
		// What they were asked is with the others by then.
		w := impl.HallCalm(fullHall(t, of, 2, 10), 12)
		for _, at := range fallen {
			w = impl.HallStep(w, hallEvent(impl.RecEvFall, at, 0))
		}
		end := impl.HallCalm(w, 480)
		wantHallDone(t, "some are down", end, true)
		for _, at := range fallen {
			end = impl.HallStep(end, hallEvent(impl.RecEvRise, at, 0))
		}
		wantHallDone(t, "just risen", end, false)
		again := impl.HallCalm(end, 60)
		wantHallDone(t, "all are up", again, true)
		wantRight(t, "all are up", again, true)
		if !sameHall(impl.HallView(again, fallen[0]), impl.HallView(end, of-1)) {
			t.Errorf("of %d: %s", of, hallTold(impl.HallView(again, fallen[0])))
		}
	}
}

// With too few that are Up nothing comes to rest, and nothing that was heard is wrong.
func TestTooFewToComeToRest(t *testing.T) {
	w := impl.HallStep(impl.HallNew(yardHouse(), 3), asksEvent(t, 0, "sea 1 raise a"))
	for at := range 2 {
		w = impl.HallStep(w, hallEvent(impl.RecEvFall, at+1, 0))
	}
	w = hallCalmed(t, "one of three", w, 120)
	wantHallDone(t, "one of three", w, false)
	wantRight(t, "one of three", w, true)
	wantFixedTexts(t, "one of three", w)
}

// What one has taken of a leader that nobody else heard of stays on its disk, behind all that is known, if no later leader
// hears of it: as no text comes of itself that would take its place, it is not done until somebody asks for something.
func TestALeftoverIsInTheWay(t *testing.T) {
	w := impl.HallCalm(impl.HallStep(impl.HallNew(yardHouse(), 3), asksEvent(t, 0, "sea 1 raise a")), 30)
	if !w.Rec.Recorders[0].Lead {
		t.Fatal(hallWorldTold(w))
	}
	w = hallStepped(t, "asked", w, asksEvent(t, 0, "sea 1 raise b"))
	for range 2 {
		w = hallStepped(t, "a tick", w, hallEvent(impl.RecEvTick, 0, 0))
		for len(w.Rec.Flight) > 0 {
			w = hallStepped(t, "lost", w, hallEvent(impl.RecEvLose, 0, 0))
		}
	}
	w = hallStepped(t, "the first one falls", w, hallEvent(impl.RecEvFall, 0, 0))
	w = hallCalmed(t, "without it", w, 30)
	wantHallDone(t, "without it", w, true)
	w = hallStepped(t, "it rises", w, hallEvent(impl.RecEvRise, 0, 0))
	end, told := wantHallRest(t, w)
	if told != "leftovers" {
		t.Fatalf("%s: %s", told, hallWorldTold(end))
	}
	w = hallStepped(t, "asked", impl.HallCalm(w, 480), asksEvent(t, 1, "time 1"))
	w = hallCalmed(t, "the place is taken", w, 10)
	wantHallDone(t, "the place is taken", w, true)
	wantRight(t, "the place is taken", w, true)
	wantFixedTexts(t, "the place is taken", w, "sea 1 raise a", "time 1")
	w = hallStepped(t, "asked once more", w, asksEvent(t, 0, "sea 1 raise b"))
	w = hallCalmed(t, "it is there", w, 10)
	wantFixedTexts(t, "it is there", w, "sea 1 raise a", "time 1", "sea 1 raise b")
	wantHallDone(t, "it is there", w, true)
}

// P45, over voyages and drawn worlds, and at the ends.
func TestDrawnHallCalmIsCalmAndCalm(t *testing.T) {
	t.Parallel()
	d := &dice{state: 4501}
	for n := range 80 {
		w, _ := diceHallWorld(d)
		if n%2 == 0 {
			v := newHallVoyage(d, 1+n%impl.RecMaxRecorders, map[string]int{})
			v.begin(t, d)
			v.sail(t, d, d.below(120), v.pass)
			w = v.w
		}
		a, b := d.below(30), d.below(30)
		wantHallBoth(t, w, a, b)
		wantHallBoth(t, w, 0, a)
		wantHallBoth(t, w, a, 0)
	}
	for _, a := range []int{0, 1, 20, 400, 999, 1000} {
		wantHallBoth(t, fullHall(t, 3, 2, 0), a, impl.HallMaxCalm-a)
		wantHallBoth(t, impl.HallNew(yardHouse(), 1+a%5), a, impl.HallMaxCalm-a)
	}
	// What is at most HallMaxCalm together has to be so: one round more is not gone by.
	w := impl.HallNew(yardHouse(), 2)
	if sameHallWorld(impl.HallCalm(impl.HallCalm(w, impl.HallMaxCalm), 1), impl.HallCalm(w, impl.HallMaxCalm+1)) {
		t.Error("a round more went by")
	}
}

func wantHallBoth(t *testing.T, w impl.HallWorld, a, b int) {
	t.Helper()
	both, once := impl.HallCalm(impl.HallCalm(w, a), b), impl.HallCalm(w, a+b)
	if !sameHallWorld(both, once) || !impl.HallWorldOk(once) {
		t.Errorf("%d and %d rounds of %s\nare %s,\nnot %s", a, b, hallWorldTold(w), hallWorldTold(both), hallWorldTold(once))
	}
}
