package tests

import (
	"slices"
	"testing"

	"loop.example/wharfhall/impl"
)

// agedWorld has so many Past books, in which the one service is to have 1, 2, .. copies; in the Book it is to have 10.
// The service has one version in all of them, so that the counter's act tells by its Create which of them was seen.
func agedWorld(past int) impl.StewWorld {
	w := impl.StewWorld{Book: crewBook(10, 1, 1, "")}
	for i := range past {
		w.Past = append(w.Past, crewBook(i+1, 1, 1, ""))
	}
	return w
}

func TestTheAgeOfAView(t *testing.T) {
	far := []int{-1 << 62, -9, -1, 0, 1<<62 - 1}
	for _, past := range []int{0, 1, 2, 3, 7, 8} {
		for age := range 12 {
			far = append(far, age)
		}
		for _, age := range far {
			want := 10
			if age > 0 && past > 0 {
				want = max(past-age+1, 1)
			}
			got := wantMove(t, count(past)+" ago", agedWorld(past), stewardMove(impl.StewCounter, age), 0)
			if len(got.Book.Copies) != want {
				t.Errorf("with %d Past books, %d books ago %d copies were seen to be missing, not %d", past, age, len(got.Book.Copies), want)
			}
		}
	}
}

// An old view has just what was: the counter sees a copy that is missing no longer, and none that is missing by now.
func TestAViewThatIsOld(t *testing.T) {
	full, short := crewBook(2, 1, 1, "R R"), crewBook(2, 1, 1, "R")
	wantMove(t, "nothing is missing any more", impl.StewWorld{Past: []impl.StewBook{short}, Book: full}, stewardMove(1, 1), 0)
	wantMove(t, "nothing was missing then", impl.StewWorld{Past: []impl.StewBook{full}, Book: short}, stewardMove(1, 1))
	wantMove(t, "there was nothing then", impl.StewWorld{Past: emptyBooks(0), Book: short}, stewardMove(1, 1))
	wantMove(t, "the oldest had nothing", impl.StewWorld{Past: []impl.StewBook{{}, short}, Book: short}, stewardMove(1, 2))
	wantMove(t, "the last is seen", impl.StewWorld{Past: []impl.StewBook{{}, short}, Book: short}, stewardMove(1, 1), 0)
}

// lateWorld is the busy fleet, and one change behind it.
func lateWorld(t *testing.T, e impl.StewEvent) impl.StewWorld {
	t.Helper()
	return wantMove(t, "ahead", impl.StewWorld{Book: busyFleet()}, seaMove(e), 0)
}

func TestSomeActsAreDoneAndSomeAreNot(t *testing.T) {
	web, web2 := busyFleet().Services[3], busyFleet().Services[4]
	got := wantMove(t, "the first is late", lateWorld(t, wishOf(web)), stewardMove(impl.StewMender, 1), 4, 0)
	if !slices.Equal(nowsOf(got.Past), []int{60, 61}) || got.Book.Now != 62 {
		t.Error(fleetWorldTold(got))
	}
	got = wantMove(t, "the last is late", lateWorld(t, wishOf(web2)), stewardMove(impl.StewMender, 1), 0, 4)
	if !slices.Equal(nowsOf(got.Past), []int{60, 61}) || got.Book.Now != 62 {
		t.Error(fleetWorldTold(got))
	}
	got = wantMove(t, "none is late", lateWorld(t, raiseOf("c", false)), stewardMove(impl.StewMender, 1), 0, 0)
	if !slices.Equal(nowsOf(got.Past), []int{60, 61, 62}) || got.Book.Now != 63 {
		t.Error(fleetWorldTold(got))
	}
	sunk := lateWorld(t, sinkOf("b"))
	got = wantMove(t, "all copies that failed are gone", sunk, stewardMove(impl.StewMender, 1), 3, 3)
	if !sameFleetWorld(got, sunk) {
		t.Error(fleetWorldTold(got))
	}
	wantMove(t, "and seen to be gone", sunk, stewardMove(impl.StewMender, 0))
	w := wantMove(t, "swept", impl.StewWorld{Book: busyFleet()}, stewardMove(impl.StewSweeper, 0), 0, 0)
	wantMove(t, "swept again by the first view", w, stewardMove(impl.StewSweeper, 2), 4, 3)
	wantMove(t, "swept again by the view between", w, stewardMove(impl.StewSweeper, 1), 3)
}

// Of eight acts every other one is for a service that has another version by now.
func TestEveryOtherActIsDone(t *testing.T) {
	w := eightWorld(1)
	for i, s := range w.Book.Services {
		if i%2 == 1 {
			w = wantMove(t, "wished again", w, seaMove(wishOf(s)), 0)
		}
	}
	got := wantMove(t, "every other", w, stewardMove(impl.StewCounter, 4), 0, 4, 0, 4, 0, 4, 0, 4)
	if len(got.Book.Copies) != 4 || !slices.Equal(nowsOf(got.Past), []int{1, 2, 3, 4, 5, 6, 7, 8}) {
		t.Error(fleetWorldTold(got))
	}
}

func TestEachCodeOfAnOldView(t *testing.T) {
	for _, c := range []struct {
		what      string
		kind      int
		past, now impl.StewBook
		code      int
	}{
		{"all is as it was", 3, crewBook(2, 1, 1, "R F"), crewBook(2, 1, 1, "R F"), 0},
		{"the service is gone", 3, crewBook(2, 1, 1, "R F"), impl.StewBook{Now: 500}, 3},
		{"the copy is gone", 3, crewBook(2, 1, 1, "R F"), crewBook(2, 1, 1, "R"), 3},
		{"the copy is Ending", 3, crewBook(2, 1, 1, "R F"), crewBook(2, 1, 1, "R Fe"), 5},
		{"another copy failed", 2, crewBook(2, 1, 0, "Ro Ro"), crewBook(2, 1, 0, "Fo Ro"), 5},
		{"there are too many", 1, crewBook(2, 1, 1, "R"), crewBook(2, 1, 1, "R R R"), 6},
		{"it is Gone by now", 1, crewBook(2, 1, 1, "R"), goneCrew("R"), 6},
		{"it is Gone no longer", 5, goneCrew(""), crewBook(2, 1, 1, ""), 6},
		{"there are copies again", 5, goneCrew(""), goneCrew("R"), 6},
		{"it follows no load", 4, loadedCrew(30, 1, 4, 2, 0), crewBook(2, 1, 1, "R R"), 6},
		{"Most is less", 4, loadedCrew(30, 1, 4, 2, 0), loadedCrew(30, 1, 2, 2, 0), 6},
	} {
		w := impl.StewWorld{Past: []impl.StewBook{c.past}, Book: c.now}
		got := wantMove(t, c.what, w, stewardMove(c.kind, 1), c.code)
		if c.code != 0 && !sameFleetWorld(got, w) {
			t.Errorf("%s: %s", c.what, fleetWorldTold(got))
		}
	}
	aged := func(turn func(b *impl.StewBook)) impl.StewWorld {
		w := impl.StewWorld{Past: []impl.StewBook{crewBook(2, 1, 1, "R F")}, Book: crewBook(2, 1, 1, "R F")}
		turn(&w.Book)
		return w
	}
	wantMove(t, "another version of the service", aged(func(b *impl.StewBook) { b.Services[0].Version++ }), stewardMove(3, 1), 4)
	wantMove(t, "an older version of the service", aged(func(b *impl.StewBook) { b.Services[0].Version-- }), stewardMove(3, 1), 4)
	wantMove(t, "another version of the copy", aged(func(b *impl.StewBook) { b.Copies[1].Version++ }), stewardMove(3, 1), 4)
	wantMove(t, "another version of another copy", aged(func(b *impl.StewBook) { b.Copies[0].Version++ }), stewardMove(3, 1), 0)
	wantMove(t, "the last Now", aged(func(b *impl.StewBook) { b.Now = impl.StewMaxNumber }), stewardMove(3, 1), 7)
}

func TestWhatIsPutBehindPast(t *testing.T) {
	for _, past := range []int{0, 1, 6, 7, 8} {
		w := impl.StewWorld{Book: fleetBook()}
		for i := range past {
			w.Past = append(w.Past, impl.StewBook{Now: 10 + i})
		}
		kept := nowsOf(w.Past)
		if past == impl.StewMaxPast {
			kept = kept[1:]
		}
		got := wantMove(t, "an event", w, seaMove(tickOf()), 0)
		if !slices.Equal(nowsOf(got.Past), append(kept, 60)) || !sameStewBook(got.Past[len(got.Past)-1], fleetBook()) {
			t.Errorf("behind %d: %s", past, fleetWorldTold(got))
		}
		got = wantMove(t, "an act", w, stewardMove(impl.StewMender, 0), 0)
		if !slices.Equal(nowsOf(got.Past), append(kept, 60)) || !sameStewBook(got.Past[len(got.Past)-1], fleetBook()) {
			t.Errorf("behind %d: %s", past, fleetWorldTold(got))
		}
		if got := wantMove(t, "not done", w, seaMove(sinkOf("none")), 3); !sameFleetWorld(got, w) {
			t.Errorf("behind %d: %s", past, fleetWorldTold(got))
		}
	}
}

// Several acts of one move are several books, with the older ones forgotten one by one.
func TestWhatIsForgotten(t *testing.T) {
	w := eightWorld(20)
	w.Past = emptyBooks(1, 2, 3, 4, 5, 6, 7)
	got := wantMove(t, "eight acts behind seven books", w, stewardMove(impl.StewCounter, 0), 0, 0, 0, 0, 0, 0, 0, 0)
	if !slices.Equal(nowsOf(got.Past), []int{20, 21, 22, 23, 24, 25, 26, 27}) {
		t.Error(fleetWorldTold(got))
	}
	w = impl.StewWorld{Past: emptyBooks(1, 2, 3, 4, 5, 6, 7), Book: fleetBook()}
	got = wantMove(t, "two acts behind seven books", w, stewardMove(impl.StewSweeper, 0), 0, 0)
	if !slices.Equal(nowsOf(got.Past), []int{2, 3, 4, 5, 6, 7, 60, 61}) {
		t.Error(fleetWorldTold(got))
	}
	for i := range 20 {
		got = wantMove(t, "a row of ticks", got, seaMove(tickOf()), 0)
		if len(got.Past) != impl.StewMaxPast || got.Past[7].Now != 62+i || got.Book.Now != 63+i {
			t.Error(fleetWorldTold(got))
		}
	}
	if !slices.Equal(nowsOf(got.Past), []int{74, 75, 76, 77, 78, 79, 80, 81}) {
		t.Error(fleetWorldTold(got))
	}
}

// A steward who acts by one view again and again is late from the second time on, for as long as the view is known.
func TestAStewardWhoSeesTheSameAgain(t *testing.T) {
	w := wantMove(t, "the first time", impl.StewWorld{Book: crewBook(3, 1, 1, "R")}, stewardMove(impl.StewCounter, 0), 0)
	for age := 1; age <= 8; age++ {
		wantMove(t, "once more", w, stewardMove(impl.StewCounter, age), 4)
		w = wantMove(t, "a tick", w, seaMove(tickOf()), 0)
	}
	wantMove(t, "by the oldest that is known", w, stewardMove(impl.StewCounter, 9))
}
