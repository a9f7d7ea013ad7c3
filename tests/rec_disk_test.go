package tests

import (
	"fmt"
	"math"
	"slices"
	"testing"

	"loop.example/wharfhall/impl"
)

func TestDisksThatAreOk(t *testing.T) {
	wantDisk(t, "nothing", impl.RecDisk{}, true)
	wantDisk(t, "an empty list", impl.RecDisk{Slots: []impl.RecSlot{}}, true)
	wantDisk(t, "a promise alone", disk(4, 0, ""), true)
	wantDisk(t, "nothing taken", disk(0, 0, "0: 0:"), true)
	wantDisk(t, "all known", disk(5, 3, "3:a 1:b 5:"), true)
	wantDisk(t, "a hole behind what is known", disk(5, 1, "3:a 0: 5:"), true)
	wantDisk(t, "a text twice", disk(5, 2, "3:a 3:a 3:a"), true)
	for n := range impl.RecMaxSlots + 1 {
		for _, known := range []int{0, n / 2, n} {
			d := impl.RecDisk{Promise: 7, Known: known, Slots: manySlots(n, 7)}
			wantDisk(t, "slots: "+count(n)+", known: "+count(known), d, true)
		}
	}
}

func TestSlotsOfDisks(t *testing.T) {
	for what, slots := range goodSlots() {
		wantDisk(t, what, impl.RecDisk{Promise: impl.RecMaxBallot, Slots: slots}, true)
	}
	for what, slots := range wrongSlots() {
		wantDisk(t, what, impl.RecDisk{Promise: impl.RecMaxBallot, Slots: slots}, false)
		wantDisk(t, what+", no promise", impl.RecDisk{Slots: slots}, false)
		wantDisk(t, what+", all known", impl.RecDisk{Promise: impl.RecMaxBallot, Known: len(slots), Slots: slots}, false)
	}
}

func TestBallotsOfSlots(t *testing.T) {
	most := impl.RecMaxBallot
	for ballot, ok := range map[int]bool{
		0: true, 1: true, 2: true, most - 1: true, most: true,
		-1: false, -most: false, most + 1: false, math.MinInt: false, math.MaxInt: false,
	} {
		for _, at := range []int{0, 1, 2} {
			slots := slotRow("2:a 3:b 4:c")
			slots[at] = impl.RecSlot{Ballot: ballot}
			wantDisk(t, "a Ballot of "+count(ballot), impl.RecDisk{Promise: most, Slots: slots}, ok)
			slots[at].Text = "x"
			wantDisk(t, "a text with a Ballot of "+count(ballot), impl.RecDisk{Promise: most, Slots: slots}, ok && ballot != 0)
		}
	}
}

func TestTextsOfSlots(t *testing.T) {
	for n := range 2*impl.RecMaxText + 10 {
		ok := n <= impl.RecMaxText
		for _, at := range []int{0, 1, 2} {
			slots := slotRow("2:a 3:b 4:c")
			slots[at].Text = long(n)
			wantDisk(t, "a text of bytes: "+count(n), impl.RecDisk{Promise: 4, Slots: slots}, ok)
			slots[at].Ballot = 0
			wantDisk(t, "a text with Ballot 0 of bytes: "+count(n), impl.RecDisk{Promise: 4, Slots: slots}, n == 0)
		}
	}
}

func TestPromises(t *testing.T) {
	most := impl.RecMaxBallot
	for promise, ok := range map[int]bool{
		0: true, 1: true, most - 1: true, most: true,
		-1: false, -most: false, most + 1: false, math.MinInt: false, math.MaxInt: false,
	} {
		wantDisk(t, "a Promise of "+count(promise), impl.RecDisk{Promise: promise}, ok)
		wantDisk(t, "nothing taken and a Promise of "+count(promise), disk(promise, 0, "0: 0:"), ok)
		wantDisk(t, "one taken and a Promise of "+count(promise), disk(promise, 1, "1:a 0:"), ok && promise > 0)
	}
}

// No slot has a Ballot above Promise, wherever it stands, known or not.
func TestNoBallotIsAboveThePromise(t *testing.T) {
	for _, promise := range []int{1, 2, 9, impl.RecMaxBallot - 1, impl.RecMaxBallot} {
		for at := range 5 {
			for known := range 6 {
				d := impl.RecDisk{Promise: promise, Known: known, Slots: manySlots(5, 1)}
				d.Slots[at].Ballot = promise
				wantDisk(t, "a Ballot that is the Promise at "+count(at), d, true)
				d.Slots[at].Ballot = promise + 1
				wantDisk(t, "a Ballot above the Promise at "+count(at), d, false)
				d.Slots[at].Text = ""
				wantDisk(t, "an empty text's Ballot above the Promise at "+count(at), d, false)
			}
		}
	}
	wantDisk(t, "one taken without a promise", disk(0, 0, "1:"), false)
}

func TestHowManyAreKnown(t *testing.T) {
	for _, n := range []int{0, 1, 2, 7, impl.RecMaxSlots} {
		slots := manySlots(n, 3)
		for known, ok := range map[int]bool{0: true, n: true, n / 2: true, -1: false, n + 1: false, math.MinInt: false, math.MaxInt: false} {
			d := impl.RecDisk{Promise: 3, Known: known, Slots: slots}
			wantDisk(t, "slots: "+count(n)+", known: "+count(known), d, ok)
		}
	}
	// What is behind the end of the list is not there, though its memory goes on.
	d := impl.RecDisk{Promise: 3, Known: 3, Slots: manySlots(5, 3)[:2]}
	wantDisk(t, "known behind the end", d, false)
}

// All slots that are known were taken; one that is not known need not be.
func TestWhatIsKnownWasTaken(t *testing.T) {
	for at := range 6 {
		for known := range 7 {
			d := impl.RecDisk{Promise: 9, Known: known, Slots: manySlots(6, 9)}
			d.Slots[at] = impl.RecSlot{}
			wantDisk(t, "known: "+count(known)+", nothing taken at "+count(at), d, known <= at)
			d.Slots[at].Ballot = 1
			wantDisk(t, "known: "+count(known)+", an empty text at "+count(at), d, true)
		}
	}
}

func TestDrawnDisks(t *testing.T) {
	d := &dice{state: 2101}
	seen := map[bool]int{}
	known := 0
	for range 6000 {
		x := diceDisk(d, 0)
		if !diskByHand(x) {
			t.Fatalf("%.900q is not ok", fmt.Sprintf("%+v", x))
		}
		wantDisk(t, "drawn", x, true)
		known += min(x.Known, 1)
		switch d.below(4) {
		case 0:
			x.Promise = oneOf(d, x.Promise-1, x.Promise+1, 0, -1, 1, impl.RecMaxBallot, impl.RecMaxBallot+1)
		case 1:
			x.Known = oneOf(d, x.Known-1, x.Known+1, len(x.Slots), len(x.Slots)+1, -1)
		default:
			x.Slots = turnSlots(d, x.Slots)
		}
		kept := slices.Clone(x.Slots)
		want := diskByHand(x)
		seen[want]++
		wantDisk(t, "turned", x, want)
		if !slices.Equal(x.Slots, kept) {
			t.Fatalf("%s was written into: it was %s", slotsTold(x.Slots), slotsTold(kept))
		}
	}
	if seen[true] < 1000 || seen[false] < 1000 || known < 1000 {
		t.Errorf("the dice showed too little: %v, %d", seen, known)
	}
}
