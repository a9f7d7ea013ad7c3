package tests

import (
	"slices"
	"testing"

	"loop.example/wharfhall/impl"
)

func TestFleetWorldsThatAreOk(t *testing.T) {
	wantFleetOk(t, "nothing", impl.StewWorld{}, true)
	wantFleetOk(t, "a book alone", impl.StewWorld{Book: fleetBook()}, true)
	for what, past := range map[string][]impl.StewBook{
		"one":                  emptyBooks(0),
		"ascending":            emptyBooks(0, 1, 2, 59),
		"equal":                emptyBooks(5, 5, 5),
		"equal to the Book's":  emptyBooks(60),
		"all equal to it":      emptyBooks(60, 60, 60),
		"ascending and equal":  emptyBooks(1, 1, 7, 7, 60, 60),
		"as many as there may": emptyBooks(1, 2, 3, 4, 5, 6, 7, 8),
		"the Book itself":      {fleetBook(), fleetBook()},
		"one with a fleet":     {portBook(), fleetBook()},
	} {
		wantFleetOk(t, what, impl.StewWorld{Past: past, Book: fleetBook()}, true)
	}
	wantFleetOk(t, "all with nothing", impl.StewWorld{Past: emptyBooks(0, 0, 0, 0, 0, 0, 0, 0)}, true)
	wantFleetOk(t, "the last Nows", impl.StewWorld{Past: emptyBooks(999999, 1000000, 1000000), Book: lastFleet(1000000)}, true)
}

func TestFleetWorldsWithPastBooksOutOfOrder(t *testing.T) {
	for what, past := range map[string][]impl.StewBook{
		"the first two":        emptyBooks(2, 1, 3),
		"the last two":         emptyBooks(1, 3, 2),
		"by more than one":     emptyBooks(1, 50, 51, 2, 52),
		"two only":             emptyBooks(60, 59),
		"one above the Book's": emptyBooks(61),
		"the last above it":    emptyBooks(1, 2, 61),
		"the first above it":   emptyBooks(61, 2),
		"all above it":         emptyBooks(61, 61, 62),
	} {
		wantFleetOk(t, what, impl.StewWorld{Past: past, Book: fleetBook()}, false)
	}
	wantFleetOk(t, "above a Now of 0", impl.StewWorld{Past: emptyBooks(1)}, false)
}

func TestFleetWorldsWithTooMuchPast(t *testing.T) {
	wantFleetOk(t, "one more", impl.StewWorld{Past: emptyBooks(1, 2, 3, 4, 5, 6, 7, 8, 9), Book: fleetBook()}, false)
	wantFleetOk(t, "one more with nothing", impl.StewWorld{Past: make([]impl.StewBook, impl.StewMaxPast+1)}, false)
	wantFleetOk(t, "many more", impl.StewWorld{Past: make([]impl.StewBook, 1000)}, false)
}

func TestFleetWorldsWithBooksThatAreNotValid(t *testing.T) {
	for what, wrong := range wrongStewBooks() {
		wantFleetOk(t, what, impl.StewWorld{Book: wrong}, false)
		wantFleetOk(t, what, impl.StewWorld{Past: emptyBooks(0, 0), Book: wrong}, false)
		for at := range impl.StewMaxPast {
			past := make([]impl.StewBook, impl.StewMaxPast)
			for i := at + 1; i < len(past); i++ {
				past[i] = lastFleet(impl.StewMaxNumber)
			}
			w := impl.StewWorld{Past: past, Book: lastFleet(impl.StewMaxNumber)}
			wantFleetOk(t, what+", without it", w, true)
			w.Past[at] = wrong
			wantFleetOk(t, what+" at "+count(at), w, false)
		}
	}
}

// noStewards are numbers of stewards that there are not.
func noStewards() []int {
	return []int{0, 7, -1, -6, 8, 1 << 62, -1 << 62}
}

func TestMovesOfNoStewardAreEvents(t *testing.T) {
	w := impl.StewWorld{Past: emptyBooks(3, 4), Book: fleetBook()}
	for _, steward := range noStewards() {
		for _, age := range []int{0, 1, -1, 99} {
			for _, e := range fleetEvents() {
				got := wantMove(t, "done", w, impl.StewMove{Steward: steward, Age: age, Event: e}, 0)
				if len(got.Past) != 3 || !sameStewBook(got.Past[2], w.Book) || got.Book.Now != 61 {
					t.Errorf("%s: %s", eventTold(e), fleetWorldTold(got))
				}
			}
			for code, events := range faultyEvents() {
				for _, e := range events {
					got := wantMove(t, "not done", w, impl.StewMove{Steward: steward, Age: age, Event: e}, code)
					if !sameFleetWorld(got, w) {
						t.Errorf("%s: %s", eventTold(e), fleetWorldTold(got))
					}
				}
			}
		}
		for _, kind := range otherKinds() {
			wantMove(t, "no kind", w, impl.StewMove{Steward: steward, Event: impl.StewEvent{Kind: kind}}, 4)
		}
	}
}

// With a steward's number the event is not looked at.
func TestMovesOfAStewardAreNoEvents(t *testing.T) {
	w := impl.StewWorld{Book: calmBook()}
	for steward := impl.StewCounter; steward <= impl.StewDrainer; steward++ {
		for _, e := range append(fleetEvents(), impl.StewEvent{}, impl.StewEvent{Kind: 7}, wishOf(plainService("WEB"))) {
			if got := wantMove(t, "nothing to ask for", w, impl.StewMove{Steward: steward, Event: e}); !sameFleetWorld(got, w) {
				t.Errorf("%d: %s", steward, fleetWorldTold(got))
			}
		}
	}
}

func TestEventsWhereNowIsTheLast(t *testing.T) {
	last := impl.StewWorld{Past: emptyBooks(1), Book: lastFleet(impl.StewMaxNumber)}
	before := impl.StewWorld{Past: emptyBooks(1), Book: lastFleet(impl.StewMaxNumber - 1)}
	for _, e := range fleetEvents() {
		if got := wantMove(t, "at the last", last, seaMove(e), 7); !sameFleetWorld(got, last) {
			t.Errorf("%s: %s", eventTold(e), fleetWorldTold(got))
		}
		wantMove(t, "behind it", wantMove(t, "one before it", before, seaMove(e), 0), seaMove(e), 7)
	}
	wantMove(t, "no kind", last, seaMove(impl.StewEvent{}), 4)
}

func TestStewardsOfAFleetAct(t *testing.T) {
	busy := impl.StewWorld{Past: emptyBooks(9), Book: busyFleet()}
	for steward, acts := range []int{0, 1, 1, 2, 1, 2, 1} {
		if steward == 0 {
			continue
		}
		got := wantMove(t, "busy", busy, stewardMove(steward, 0), make([]int, acts)...)
		if got.Book.Now != 60+acts || len(got.Past) != 1+acts {
			t.Errorf("%d: %s", steward, fleetWorldTold(got))
		}
	}
	for steward := impl.StewCounter; steward <= impl.StewDrainer; steward++ {
		wantMove(t, "nothing to ask for", impl.StewWorld{}, stewardMove(steward, 0))
	}
}

// eightWorld has eight services without copies, each of which is to have one; the counter asks for an act for each.
func eightWorld(now int) impl.StewWorld {
	b := stewServices(names(impl.StewMaxServices)...)
	b.Now = now
	for i := range b.Services {
		b.Services[i].Want = 1
	}
	return impl.StewWorld{Book: b}
}

func TestActsForAllServices(t *testing.T) {
	w := eightWorld(1)
	got := wantMove(t, "eight acts", w, stewardMove(impl.StewCounter, 0), 0, 0, 0, 0, 0, 0, 0, 0)
	if len(got.Book.Copies) != 8 || !slices.Equal(nowsOf(got.Past), []int{1, 2, 3, 4, 5, 6, 7, 8}) {
		t.Error(fleetWorldTold(got))
	}
	for i, b := range got.Past {
		if len(b.Copies) != i {
			t.Errorf("%d acts ahead of it there was %s", i, stewTold(b))
		}
	}
	again := wantMove(t, "the same again", got, stewardMove(impl.StewCounter, 8), 4, 4, 4, 4, 4, 4, 4, 4)
	if !sameFleetWorld(again, got) {
		t.Error(fleetWorldTold(again))
	}
}

func TestActsWhereNowIsTheLast(t *testing.T) {
	got := wantMove(t, "three before", eightWorld(impl.StewMaxNumber-3), stewardMove(impl.StewCounter, 0), 0, 0, 0, 7, 7, 7, 7, 7)
	if !slices.Equal(nowsOf(got.Past), []int{999997, 999998, 999999}) || got.Book.Now != impl.StewMaxNumber {
		t.Error(fleetWorldTold(got))
	}
	last := impl.StewWorld{Past: emptyBooks(4), Book: lastFleet(impl.StewMaxNumber)}
	for steward, codes := range [][]int{nil, {7}, {7}, {7}, {7}, {7, 7}} {
		if steward == 0 || steward == impl.StewCounter {
			continue
		}
		if got := wantMove(t, "at the last", last, stewardMove(steward, 0), codes...); !sameFleetWorld(got, last) {
			t.Errorf("%d: %s", steward, fleetWorldTold(got))
		}
	}
}
