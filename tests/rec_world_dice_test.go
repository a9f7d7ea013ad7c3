package tests

import (
	"fmt"
	"slices"
	"testing"

	"loop.example/wharfhall/impl"
)

// nearDisk is an ok disk that has most of another one's slots.
func nearDisk(d *dice, base impl.RecDisk) impl.RecDisk {
	out := impl.RecDisk{Promise: base.Promise, Slots: slices.Clone(base.Slots)}
	if d.below(3) == 0 {
		out.Slots = out.Slots[:d.below(len(out.Slots)+1)]
	}
	for i := range out.Slots {
		if d.below(6) == 0 {
			out.Slots[i] = diceSlots(d, 1, base.Promise)[0]
		}
	}
	for out.Known < len(out.Slots) && out.Slots[out.Known].Ballot > 0 && d.below(5) > 0 {
		out.Known++
	}
	return out
}

// diceRecWorld is an ok world of recorders of all sorts, whose disks are near enough to each other for most to have the same.
func diceRecWorld(d *dice) impl.RecWorld {
	var w impl.RecWorld
	of := 1 + d.below(impl.RecMaxRecorders)
	base := impl.RecDisk{Promise: 1 + d.below(9)}
	base.Slots = diceSlots(d, oneOf(d, 0, 1, d.below(6), d.below(12), d.below(12), impl.RecMaxSlots), base.Promise)
	for n := 1; n <= of; n++ {
		r := asOneOf(diceTicker(d), n, of)
		if d.below(5) > 0 {
			r.Safe = nearDisk(d, base)
		}
		if d.below(2) == 0 {
			r.Disk = nearDisk(d, base)
			r.Ballot = min(r.Ballot, r.Disk.Promise)
		}
		w.Recorders = append(w.Recorders, r)
	}
	if d.below(8) == 0 {
		w.Flight = plainFlight(impl.RecMaxFlight - d.below(8))
	}
	for len(w.Flight) < impl.RecMaxFlight && d.below(6) > 0 {
		m := diceLetter(d, w.Recorders[d.below(of)])
		w.Flight = slices.Insert(w.Flight, d.below(len(w.Flight)+1), m)
	}
	w.Fixed = diceFixed(d, base.Slots)
	return w
}

// diceFixed are some places, mostly with the texts of slots.
func diceFixed(d *dice, slots []impl.RecSlot) []impl.RecFix {
	var fixed []impl.RecFix
	most := d.below(3)
	for i, s := range slots {
		if d.below(3) < most {
			fixed = append(fixed, impl.RecFix{Index: i + 1, Text: oneOf(d, s.Text, s.Text, s.Text, s.Text, "else")})
		}
	}
	if index := len(slots) + 1 + d.below(20); d.below(4) == 0 && index <= impl.RecMaxSlots {
		fixed = append(fixed, impl.RecFix{Index: index, Text: oneOf(d, "", "a", long(impl.RecMaxText))})
	}
	return fixed
}

// turnRecWorld turns one thing of a world.
func turnRecWorld(d *dice, w *impl.RecWorld) {
	switch d.below(8) {
	case 0, 1:
		turnRecorder(d, &w.Recorders[d.below(len(w.Recorders))])
	case 2:
		w.Recorders = turnedAround(d, w.Recorders)
	case 3:
		w.Recorders = oneOf(d, w.Recorders[1:], w.Recorders[:len(w.Recorders)-1], append(w.Recorders, impl.RecNew(min(len(w.Recorders)+1, 5), 5)))
	case 4:
		if len(w.Flight) > 0 {
			turnMessage(d, &w.Flight[d.below(len(w.Flight))])
		}
	case 5:
		w.Flight = append(w.Flight, plainFlight(impl.RecMaxFlight-len(w.Flight)+d.below(2))...)
	case 6:
		w.Fixed = oneOf(d, turnedAround(d, w.Fixed), append(w.Fixed, impl.RecFix{Index: d.below(impl.RecMaxSlots + 2)}))
	default:
		if len(w.Fixed) > 0 {
			f := &w.Fixed[d.below(len(w.Fixed))]
			f.Index, f.Text = f.Index+oneOf(d, 0, 1, -1, -f.Index, impl.RecMaxSlots+1-f.Index), oneOf(d, f.Text, long(impl.RecMaxText), long(impl.RecMaxText+1))
		}
	}
}

// diceRecEvent is an event, mostly one that happens.
func diceRecEvent(d *dice, w impl.RecWorld) impl.RecEvent {
	e := impl.RecEvent{Kind: oneOf(d, 1, 1, 1, 2, 2, 2, 2, 3, 4, 5, 6, 6, 6, 7, 0, 8), Text: oneOf(d, "", "a", "b", "new", long(impl.RecMaxText), long(impl.RecMaxText+1))}
	places := len(w.Recorders)
	if e.Kind < impl.RecEvFall {
		places = len(w.Flight)
	}
	e.A = oneOf(d, d.below(places+1), d.below(places+1), d.below(places+1), 0, places-1, places, -1)
	return e
}

func TestDrawnRecWorlds(t *testing.T) {
	t.Parallel()
	d := &dice{state: 2603}
	seen := map[string]int{}
	for range 4000 {
		w := diceRecWorld(d)
		kept := copyRecWorld(w)
		wantRecWorld(t, "drawn", w, true)
		wantAgree(t, "drawn", w, agreeByHand(w))
		seen[fmt.Sprint("agree: ", agreeByHand(w))]++
		for _, index := range []int{0, 1, 2, 1 + d.below(12), 1 + d.below(impl.RecMaxSlots)} {
			text, is := majorByHand(w, index)
			wantMajor(t, "drawn", w, index, text, is)
			seen[fmt.Sprint("most: ", is)]++
		}
		e := diceRecEvent(d, w)
		got := recDone(t, "drawn", w, e)
		if !impl.RecWorldOk(got) || !recWorldByHand(got) {
			t.Fatalf("%s of %s\nis %s,\nwhich is not ok", recEventTold(e), recWorldTold(w), recWorldTold(got))
		}
		seen[fmt.Sprint("the Kind ", e.Kind, " changed: ", !sameRecWorld(w, got))]++
		seen[fmt.Sprint("noted: ", len(got.Fixed) > len(w.Fixed))]++
		seen[fmt.Sprint("full: ", len(got.Flight) == impl.RecMaxFlight)]++
		wantFixedStays(t, w, got)
		if !sameRecWorld(w, kept) {
			t.Fatalf("%s was written into: it was %s", recWorldTold(w), recWorldTold(kept))
		}
		if t.Failed() {
			return
		}
	}
	for kind := impl.RecEvTick; kind <= impl.RecEvWish; kind++ {
		wantSeen(t, seen, 60, fmt.Sprint("the Kind ", kind, " changed: true"))
	}
	wantSeen(t, seen, 60, "the Kind 0 changed: false", "the Kind 8 changed: false", "the Kind 2 changed: false", "agree: true", "agree: false", "most: true", "most: false", "noted: true", "noted: false", "full: true")
}

func TestDrawnRecWorldsInCalm(t *testing.T) {
	t.Parallel()
	d := &dice{state: 2604}
	for range 700 {
		w := diceRecWorld(d)
		kept := copyRecWorld(w)
		got := wantRecCalm(t, "drawn", w, d.below(5)-1)
		if !impl.RecWorldOk(got) || !recWorldByHand(got) {
			t.Fatalf("rounds of %s\nled to %s,\nwhich is not ok", recWorldTold(w), recWorldTold(got))
		}
		wantFixedStays(t, w, got)
		if !sameRecWorld(w, kept) {
			t.Fatalf("%s was written into: it was %s", recWorldTold(w), recWorldTold(kept))
		}
		if t.Failed() {
			return
		}
	}
}

// wantFixedStays is promise 28, which holds of any ok world: nothing takes a text away that is fixed.
func wantFixedStays(t *testing.T, w, got impl.RecWorld) {
	t.Helper()
	for _, f := range w.Fixed {
		if !slices.Contains(got.Fixed, f) {
			t.Fatalf("%v was fixed, and is not any more: %s", f, recWorldTold(got))
		}
	}
}

func TestDrawnRecWorldsThatAreTurned(t *testing.T) {
	t.Parallel()
	d := &dice{state: 2605}
	seen := map[bool]int{}
	for range 2500 {
		w := diceRecWorld(d)
		turnRecWorld(d, &w)
		ok := recWorldByHand(w)
		seen[ok]++
		if got := impl.RecWorldOk(w); got != ok {
			t.Fatalf("RecWorldOk of %s\n= %v", recWorldTold(w), got)
		}
		recDone(t, "turned", w, diceRecEvent(d, w))
		if !ok || len(w.Flight) < 30 {
			wantRecCalm(t, "turned", w, d.below(2))
		}
		wantAgree(t, "turned", w, agreeByHand(w))
		index := 1 + d.below(9)
		text, is := majorByHand(w, index)
		wantMajor(t, "turned", w, index, text, is)
		if t.Failed() {
			return
		}
	}
	if seen[true] < 500 || seen[false] < 500 {
		t.Errorf("the dice showed too little: %v", seen)
	}
}
