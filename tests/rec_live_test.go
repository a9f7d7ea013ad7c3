package tests

import (
	"slices"
	"testing"

	"loop.example/wharfhall/impl"
)

// mayLive says whether promise 31 speaks of a world: most are Up, no ballot is near its end, and there is not too much.
func mayLive(w impl.RecWorld) bool {
	up, ballot := 0, 0
	texts := map[string]bool{}
	look := func(slots []impl.RecSlot) bool {
		for _, s := range slots {
			texts[s.Text], ballot = true, max(ballot, s.Ballot)
		}
		return len(slots) <= 20
	}
	few := true
	messages := slices.Clone(w.Flight)
	for _, r := range w.Recorders {
		if r.Up {
			up++
		}
		few = look(r.Safe.Slots) && look(r.Disk.Slots) && look(r.Best) && few
		ballot = max(ballot, r.Disk.Promise, r.Safe.Promise)
		for _, text := range r.Wishes {
			texts[text] = true
		}
		messages = append(messages, r.Held...)
	}
	for _, m := range messages {
		few = look(m.Slots) && few
		texts[m.Text], ballot = true, max(ballot, m.Ballot)
	}
	return few && 2*up > len(w.Recorders) && ballot <= impl.RecMaxBallot-10000 && len(texts) <= 60
}

// wantLive is promise 31: a wish of one that is Up comes into the book of each that is Up. It tells behind how many rounds.
func wantLive(t *testing.T, w impl.RecWorld, at int, text string) int {
	t.Helper()
	wishing := impl.RecDo(w, recWishEvent(at, text))
	if !mayLive(wishing) || !w.Recorders[at].Up || len(w.Recorders[at].Wishes) == impl.RecMaxWishes {
		t.Fatalf("promise 31 does not speak of %s", recWorldTold(wishing))
	}
	end := impl.RecCalm(wishing, 200)
	if !isKnownToAll(end, text) || !impl.RecAgree(end) {
		t.Fatalf("%q is not known to all behind 200 rounds of %s:\n%s", text, recWorldTold(wishing), recWorldTold(end))
	}
	rounds := 0
	for step := wishing; !isKnownToAll(step, text); rounds++ {
		step = impl.RecCalm(step, 1)
	}
	return rounds
}

// isKnownToAll says whether a text is in the book of each that is Up.
func isKnownToAll(w impl.RecWorld, text string) bool {
	for _, r := range w.Recorders {
		if r.Up && !slices.Contains(impl.RecBook(r), text) {
			return false
		}
	}
	return true
}

// raised lets some rise until more than half are Up, whoever that is.
func raised(t *testing.T, d *dice, v *voyage) {
	t.Helper()
	for !mostUp(v.w) {
		v.do(t, recEvent(impl.RecEvRise, d.below(len(v.w.Recorders))))
	}
}

func mostUp(w impl.RecWorld) bool {
	up := 0
	for _, r := range w.Recorders {
		if r.Up {
			up++
		}
	}
	return 2*up > len(w.Recorders)
}

// someUp is the place of one that is Up and has room for a wish; -1, if nobody has.
func someUp(d *dice, w impl.RecWorld) int {
	first := d.below(len(w.Recorders))
	for i := range w.Recorders {
		at := (first + i) % len(w.Recorders)
		if r := w.Recorders[at]; r.Up && len(r.Wishes) < impl.RecMaxWishes {
			return at
		}
	}
	return -1
}

// P31, over many rows of events.
func TestDrawnVoyagesComeToTheirEnd(t *testing.T) {
	t.Parallel()
	d := &dice{state: 3101}
	seen := map[string]int{}
	most := 0
	for n := range 150 {
		v := newVoyage(1+n%impl.RecMaxRecorders, seen)
		v.sail(t, d, 40+d.below(300))
		raised(t, d, v)
		at := someUp(d, v.w)
		if at < 0 || !mayLive(v.w) {
			seen["too much"]++
			continue
		}
		rounds := wantLive(t, v.w, at, "at last")
		most = max(most, rounds)
		seen["came to its end"]++
		seen["under way"] += len(v.w.Flight)
	}
	wantSeen(t, seen, 100, "came to its end", "under way")
	if most < 10 {
		t.Errorf("the longest took %d rounds only", most)
	}
}

// crammed hands in as much as promise 31 lets there be, to all that are Up, with room for one wish more, and doubles
// messages until no more fit.
func crammed(t *testing.T, d *dice, v *voyage) {
	t.Helper()
	for n := range 60 {
		at := n % len(v.w.Recorders)
		next := impl.RecDo(v.w, recWishEvent(at, "c"+count(n)))
		if len(next.Recorders[at].Wishes) < impl.RecMaxWishes && mayLive(impl.RecDo(next, recWishEvent(at, "at last"))) {
			v.do(t, recWishEvent(at, "c"+count(n)))
		}
	}
	for len(v.w.Flight) > 0 && len(v.w.Flight) < impl.RecMaxFlight {
		v.w = impl.RecDo(v.w, recEvent(impl.RecEvDouble, d.below(len(v.w.Flight))))
	}
}

func TestCrammedVoyagesComeToTheirEnd(t *testing.T) {
	t.Parallel()
	d := &dice{state: 3102}
	seen := map[string]int{}
	for n := range 80 {
		v := newVoyage(1+n%impl.RecMaxRecorders, seen)
		v.sail(t, d, d.below(300))
		for at := range v.w.Recorders {
			if d.below(3) > 0 {
				v.do(t, recEvent(impl.RecEvRise, at))
			}
		}
		raised(t, d, v)
		crammed(t, d, v)
		at := someUp(d, v.w)
		if at < 0 || !mayLive(impl.RecDo(v.w, recWishEvent(at, "at last"))) {
			seen["too much"]++
			continue
		}
		seen["rounds"] += wantLive(t, v.w, at, "at last")
		seen["came to its end"]++
		seen["full at the start"] += len(v.w.Flight) / impl.RecMaxFlight
	}
	wantSeen(t, seen, 25, "came to its end", "full at the start", "rounds")
}

// One after the other falls and rises, and each wish comes to all that are Up; more than half always are.
func TestWishesComeInThoughSomeFall(t *testing.T) {
	for of := 1; of <= impl.RecMaxRecorders; of++ {
		w := impl.RecNewWorld(of)
		for n := range 10 {
			down := n % of
			if of > 2 {
				w = impl.RecDo(w, recEvent(impl.RecEvFall, down))
			}
			at := (down + 1) % of
			rounds := wantLive(t, w, at, "w"+count(n))
			w = impl.RecCalm(impl.RecDo(w, recWishEvent(at, "w"+count(n))), rounds)
			w = impl.RecDo(w, recEvent(impl.RecEvRise, down))
		}
		w = impl.RecCalm(w, 200)
		for _, r := range w.Recorders {
			if len(impl.RecBook(r)) != 10 {
				t.Errorf("of %d: %s", of, recorderTold(r))
			}
		}
		wantFixed(t, "of "+count(of), w, "1:w0 2:w1 3:w2 4:w3 5:w4 6:w5 7:w6 8:w7 9:w8 10:w9")
	}
}

// With just half of them Up, nothing more is fixed; one more, and all is.
func TestHalfOfThemAreNotEnough(t *testing.T) {
	for of, down := range map[int][]int{2: {0}, 3: {0, 1}, 4: {1, 2}, 5: {0, 2, 4}} {
		w := impl.RecCalm(impl.RecDo(impl.RecNewWorld(of), recWishEvent(0, "first")), 30)
		for _, at := range down {
			w = impl.RecDo(w, recEvent(impl.RecEvFall, at))
		}
		at := slices.IndexFunc(w.Recorders, func(r impl.Recorder) bool { return r.Up })
		w = impl.RecDo(w, recWishEvent(at, "second"))
		w = impl.RecCalm(w, 200)
		wantFixed(t, "too few of "+count(of), w, "1:first")
		if mayLive(w) || isKnownToAll(w, "second") || !impl.RecAgree(w) {
			t.Errorf("of %d: %s", of, recWorldTold(w))
		}
		w = impl.RecDo(w, recEvent(impl.RecEvRise, down[0]))
		wantLive(t, w, at, "third")
		wantFixed(t, "enough of "+count(of), impl.RecCalm(w, 200), "1:first 2:second")
	}
}

// A place that nobody heard of, ahead of one that somebody took, is fixed as the empty text: nobody wished for that.
func TestAHoleIsFixedAsTheEmptyText(t *testing.T) {
	v := newVoyage(3, map[string]int{})
	v.calm(t, 10)
	v.do(t, recWishEvent(0, "lost"))
	v.do(t, recTickEvent())
	for len(v.w.Flight) > 0 {
		v.do(t, recEvent(impl.RecEvLose, 0))
	}
	v.do(t, recWishEvent(0, "found"))
	v.do(t, recTickEvent())
	for len(v.w.Flight) > 0 {
		kind := impl.RecEvLose
		if v.w.Flight[0].Index == 2 {
			kind = impl.RecEvBring
		}
		v.do(t, recEvent(kind, 0))
	}
	if r := v.w.Recorders[1]; !slices.Equal(r.Disk.Slots, slotRow("0: 1:found")) {
		t.Fatal(recorderTold(r))
	}
	v.do(t, recEvent(impl.RecEvFall, 0))
	v.do(t, recTickEvent())
	wantFixed(t, "taken by two", v.w, "2:found")
	v.calm(t, 40)
	wantFixed(t, "brought in anew", v.w, "1: 2:found")
	wantRecBook(t, "brought in anew", v.w.Recorders[2], "", "found")
	v.do(t, recEvent(impl.RecEvRise, 0))
	v.do(t, recWishEvent(0, "lost"))
	v.calm(t, 20)
	wantRecBook(t, "wished for again", v.w.Recorders[0], "", "found", "lost")
}

// What one that was cut off wrote as a leader, and nobody took, gives way to what the others fixed meanwhile.
func TestALeaderThatWasCutOff(t *testing.T) {
	v := newVoyage(3, map[string]int{})
	v.calm(t, 10)
	if !v.w.Recorders[0].Lead {
		t.Fatal(recWorldTold(v.w))
	}
	v.do(t, recWishEvent(0, "alone"))
	v.do(t, recWishEvent(1, "together"))
	cut := weather{cut: 1, near: 1}
	for range 400 {
		if e := cut.through(&dice{state: 7}, v.w, 0); e.Kind == impl.RecEvTick && len(v.w.Flight) > 0 {
			v.do(t, recEvent(impl.RecEvLose, 0))
		} else {
			v.do(t, e)
		}
	}
	if v.seen["two lead"] == 0 || !v.w.Recorders[0].Lead || !v.w.Recorders[1].Lead {
		t.Fatal(recWorldTold(v.w))
	}
	wantFixed(t, "cut off", v.w, "1:together")
	v.calm(t, 30)
	wantFixed(t, "not any more", v.w, "1:together 2:alone")
	for _, r := range v.w.Recorders {
		wantRecBook(t, "not any more", r, "together", "alone")
	}
}

// P33, over voyages and drawn worlds, and at the ends.
func TestDrawnRecCalmIsCalmAndCalm(t *testing.T) {
	t.Parallel()
	d := &dice{state: 3301}
	for n := range 120 {
		w := diceRecWorld(d)
		if n%2 == 0 {
			v := newVoyage(1+n%impl.RecMaxRecorders, map[string]int{})
			v.sail(t, d, d.below(150))
			w = v.w
		}
		a, b := d.below(30), d.below(30)
		wantRecBoth(t, w, a, b)
		wantRecBoth(t, w, 0, a)
		wantRecBoth(t, w, a, 0)
	}
	for _, a := range []int{0, 1, 400, 999, 1000} {
		wantRecBoth(t, recCrowd(), a, impl.RecMaxCalm-a)
		wantRecBoth(t, impl.RecNewWorld(1+a%5), a, impl.RecMaxCalm-a)
	}
	// What is at most RecMaxCalm together has to be so: one round more is not gone by.
	w := impl.RecDo(impl.RecNewWorld(2), recEvent(impl.RecEvFall, 0))
	if sameRecWorld(impl.RecCalm(impl.RecCalm(w, impl.RecMaxCalm), 1), impl.RecCalm(w, impl.RecMaxCalm+1)) {
		t.Error("a round more went by")
	}
}

func wantRecBoth(t *testing.T, w impl.RecWorld, a, b int) {
	t.Helper()
	both, once := impl.RecCalm(impl.RecCalm(w, a), b), impl.RecCalm(w, a+b)
	if !sameRecWorld(both, once) || !impl.RecWorldOk(once) {
		t.Errorf("%d and %d rounds of %s\nare %s,\nnot %s", a, b, recWorldTold(w), recWorldTold(both), recWorldTold(once))
	}
}
