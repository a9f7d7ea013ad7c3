package tests

import (
	"testing"

	"loop.example/wharfhall/impl"
)

// otherKinds are kinds that no event has.
func otherKinds() []int {
	return []int{-1 << 62, -7, -1, 0, 7, 8, 13, 1<<62 - 1}
}

// fleetEvents has for each kind an event that is done in the fleet's book.
func fleetEvents() []impl.StewEvent {
	wish := plainService("new")
	return []impl.StewEvent{tickOf(), wishOf(wish), failOf("web", 1), sinkOf("a"), raiseOf("c", true), loadOf("web", 9)}
}

// faultyEvents are, by the code that they have in the fleet's book, events that are not done there.
func faultyEvents() map[int][]impl.StewEvent {
	return map[int][]impl.StewEvent{
		2: {wishOf(impl.StewService{}), wishOf(plainService("New")), raiseOf("C", true), raiseOf("", false), loadOf("web", -1), loadOf("web", impl.StewMaxLoad+1)},
		3: {failOf("web", 6), failOf("none", 1), sinkOf("c"), sinkOf(""), loadOf("api", 1), loadOf("none", 1)},
	}
}

func lastFleet(now int) impl.StewBook {
	b := fleetBook()
	b.Now = now
	return b
}

func TestEachEventIsDone(t *testing.T) {
	for i, e := range fleetEvents() {
		if e.Kind != firstEvent+i {
			t.Fatalf("%d: %s", i, eventTold(e))
		}
		wantSea(t, "done", fleetBook(), e, 0)
		wantSea(t, "done as the last", lastFleet(impl.StewMaxNumber-1), e, 0)
	}
	for code, events := range faultyEvents() {
		for _, e := range events {
			wantSea(t, "not done", fleetBook(), e, code)
			wantSea(t, "not done as the last", lastFleet(impl.StewMaxNumber-1), e, code)
		}
	}
}

func TestEventsOfBooksThatAreNotValid(t *testing.T) {
	for what, b := range wrongStewBooks() {
		for _, e := range fleetEvents() {
			wantSea(t, what, b, e, 1)
		}
		for _, events := range faultyEvents() {
			for _, e := range events {
				wantSea(t, what, b, e, 1)
			}
		}
		for _, kind := range otherKinds() {
			wantSea(t, what, b, impl.StewEvent{Kind: kind}, 1)
		}
	}
	last := lastFleet(impl.StewMaxNumber)
	last.Berths = nil
	wantSea(t, "not valid, and the last", last, tickOf(), 1)
}

// No event mends a book that is not valid, though behind it the book would be.
func TestNoEventMendsABook(t *testing.T) {
	b := fleetBook()
	b.Services[fleetWeb].Load = -1
	wantSea(t, "a load", b, loadOf("web", 1), 1)
	b = fleetBook()
	b.Services[fleetWeb].Want = 11
	wantSea(t, "a wish", b, wishOf(fleetBook().Services[fleetWeb]), 1)
	b = fleetBook()
	b.Berths = b.Berths[1:]
	wantSea(t, "a berth", b, raiseOf("a", false), 1)
	b = dockBook("a", "R:a We")
	b.Copies[1].Berth = "a"
	wantSea(t, "a tick", b, tickOf(), 1)
	b = stewServices("web")
	b.Now, b.Services[0].Version = 0, 1
	wantSea(t, "the next version", b, tickOf(), 1)
}

func TestOtherKindsOfEvents(t *testing.T) {
	for _, kind := range otherKinds() {
		for _, b := range []impl.StewBook{{}, fleetBook(), lastFleet(impl.StewMaxNumber - 1), lastFleet(impl.StewMaxNumber)} {
			wantSea(t, "nothing else told", b, impl.StewEvent{Kind: kind}, 4)
			for _, e := range append(fleetEvents(), append(faultyEvents()[2], faultyEvents()[3]...)...) {
				e.Kind = kind
				wantSea(t, "another kind", b, e, 4)
			}
		}
	}
}

func TestEventsBehindTheLastChange(t *testing.T) {
	last := lastFleet(impl.StewMaxNumber)
	for _, e := range fleetEvents() {
		wantSea(t, "behind the last", last, e, 7)
	}
	for _, events := range faultyEvents() {
		for _, e := range events {
			wantSea(t, "behind the last, and not done", last, e, 7)
		}
	}
	for kind := firstEvent; kind <= lastEvent; kind++ {
		wantSea(t, "nothing else told", last, impl.StewEvent{Kind: kind}, 7)
		wantSea(t, "an empty book", impl.StewBook{Now: impl.StewMaxNumber}, impl.StewEvent{Kind: kind}, 7)
	}
	got := wantSea(t, "the last", lastFleet(impl.StewMaxNumber-1), tickOf(), 0)
	wantSea(t, "behind it", got, tickOf(), 7)
}

// A load that is wrong, for a service that has none, is first one for a service that has none.
func TestALoadThatIsWrongTwice(t *testing.T) {
	for _, load := range []int{-1, impl.StewMaxLoad + 1} {
		wantSea(t, "no such service", fleetBook(), loadOf("none", load), 3)
		wantSea(t, "a Per of 0", fleetBook(), loadOf("api", load), 3)
	}
}

// What an event does not use is not looked at.
func TestWhatAnEventOfTheSeaDoesNotUse(t *testing.T) {
	wild := impl.StewEvent{Service: impl.StewService{Name: "W\xff", Version: -1, Gone: true, Image: -1, Want: -1, Down: -1, Over: -1, Next: -1,
		Per: -1, Least: 2, Most: 1, Load: -1, Cool: -1}, Name: "N\xff", Number: -1 << 62, Flag: true}
	for _, e := range fleetEvents() {
		plain := wantSea(t, "plain", fleetBook(), e, 0)
		more := wild
		more.Kind = e.Kind
		switch e.Kind {
		case impl.StewWish:
			more.Service = e.Service
		case impl.StewFails, impl.StewLoad:
			more.Name, more.Number = e.Name, e.Number
		case impl.StewSink:
			more.Name = e.Name
		case impl.StewRaise:
			more.Name, more.Flag = e.Name, e.Flag
		}
		if got := wantSea(t, "wild", fleetBook(), more, 0); !sameStewBook(got, plain) {
			t.Errorf("%s leads to %s, not to %s", eventTold(more), stewTold(got), stewTold(plain))
		}
	}
}
