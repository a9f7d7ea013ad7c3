package tests

import (
	"testing"

	"loop.example/wharfhall/impl"
)

// memorySteps are worlds with events: of each kind one that is done, ones that are refused by a call, ones that
// can't happen, and ones of worlds that are not ok.
func memorySteps() map[string]stepCase {
	out := map[string]stepCase{}
	for what, e := range goodEvents() {
		out[what] = stepCase{goodWorld(), e}
		wrong := goodWorld()
		wrong.Doors[1].View.Tick = -1
		out[what+", of a world that is not ok"] = stepCase{wrong, e}
		e.Door = noDoor
		out[what+", of no door"] = stepCase{goodWorld(), e}
		e.Door, e.Team, e.Ask, e.At = busyDoor, "none", impl.GateAsk{}, -1
		out[what+", refused"] = stepCase{goodWorld(), e}
	}
	for what, a := range goodAsks() {
		out["asks to "+what] = stepCase{goodWorld(), impl.GateEvent{Kind: impl.GateAsks, Ask: a}}
		w := goodWorld()
		w.Doors[0].Slips = slipRow("take", what, "take")
		out["commits to "+what] = stepCase{w, impl.GateEvent{Kind: impl.GateCommits, At: 1}}
		w.Book.Given++
		out["commits late to "+what] = stepCase{w, impl.GateEvent{Kind: impl.GateCommits, At: 1}}
	}
	out["no kind"] = stepCase{goodWorld(), impl.GateEvent{}}
	return out
}

// stepCase is all that GateStep is given but the law.
type stepCase struct {
	world impl.GateWorld
	event impl.GateEvent
}

func TestNoWorldIsWrittenInto(t *testing.T) {
	for what, c := range memorySteps() {
		l, first, w, e := withRoom(passLaw()), withRoom(passBook()), withRoom(c.world), withRoom(c.event)
		lawBefore, firstBefore, worldBefore, eventBefore := opened(l), opened(first), opened(w), opened(e)
		impl.GateWorldOk(l, w)
		impl.GateSafe(l, first, w)
		impl.GateStep(l, w, e)
		wantUntouched(t, what, l, lawBefore)
		wantUntouched(t, what, first, firstBefore)
		wantUntouched(t, what, w, worldBefore)
		wantUntouched(t, what, e, eventBefore)
	}
}

func TestAStepSharesNoMemory(t *testing.T) {
	for what, c := range memorySteps() {
		l, w, e := withRoom(passLaw()), withRoom(c.world), withRoom(c.event)
		got, _ := impl.GateStep(l, w, e)
		wantApart(t, what, got, l, w, e)
	}
}

// A world may have one book for all, and one ask for all slips; an answer has each on its own.
func TestListsOfAStepShareNoMemory(t *testing.T) {
	list := []string{"a", "b", "c"}
	l := passLaw()
	l.Mends = nil
	l.Shapes[0].Fields = nil
	for _, name := range names(3) {
		l.Shapes[0].Fields = append(l.Shapes[0].Fields, impl.GateField{Name: name, Kind: impl.GateText, Least: 1, Most: 9})
	}
	ask := holding(askMake("barge", "z", "dock", list...), list...)
	b := impl.GateBook{Now: 3, Given: 3, Grants: manyGrants(3), Ledgers: []impl.GateLedger{ledger("mill", "barge", 9, 9)}}
	for i := range b.Grants {
		b.Grants[i].Rule.Verbs = b.Grants[0].Rule.Verbs
	}
	for what, e := range goodEvents() {
		w := impl.GateWorld{Book: b}
		for _, name := range []string{"d", "k", "m"} {
			s := impl.GateSlip{Door: name, Ask: ask, Given: 3, Wants: manyWants(2)}
			w.Doors = append(w.Doors, impl.GateDoor{Name: name, Up: true, View: b, Slips: []impl.GateSlip{s, s, s}})
		}
		w.Doors[2].Up, w.Doors[2].Slips = false, nil
		if e.Kind == impl.GateAsks {
			e.Ask = ask
		}
		wantWorld(t, what, l, w, true)
		got, _ := impl.GateStep(l, w, e)
		if len(got.Doors) != 3 {
			t.Errorf("%s: %+v", what, got)
		}
		wantApart(t, what, got, l, w, e)
	}
}

// What a door has looked at is its own: neither the Book nor another door's View turns with it.
func TestAViewIsItsOwn(t *testing.T) {
	w := goodWorld()
	for _, at := range []int{busyDoor, lateDoor} {
		w, _ = impl.GateStep(passLaw(), w, impl.GateEvent{Kind: impl.GateLook, Door: at})
	}
	kept := bookCopy(w.Book)
	view := &w.Doors[1].View
	view.Objects[0].Values[0], view.Grants[0].Rule.Verbs[0], view.Ledgers[0].Free = "77", 9, 99
	view.Purses[0].Amount, view.Objects[1].Holds[0] = 99, "zzz"
	if !sameBook(w.Book, kept) || !sameBook(w.Doors[0].View, kept) {
		t.Errorf("%+v", w)
	}
}

// The same call gives the same answer again, whatever happened between.
func TestStepsKeepNothing(t *testing.T) {
	for what, c := range memorySteps() {
		first, said := impl.GateStep(passLaw(), c.world, c.event)
		kept := worldCopy(first)
		ok, safe := impl.GateWorldOk(passLaw(), c.world), impl.GateSafe(passLaw(), passBook(), c.world)
		for _, e := range goodEvents() {
			impl.GateStep(passLaw(), first, e)
			impl.GateStep(passLaw(), passWorld(), e)
			impl.GateStep(storeLaw(), impl.GateWorld{Book: storeBook(), Doors: manyDoors(2)}, e)
		}
		again, same := impl.GateStep(passLaw(), c.world, c.event)
		if said != same || !sameWorld(first, kept) || !sameWorld(again, kept) {
			t.Errorf("%s: %+v, then %+v", what, first, again)
		}
		if impl.GateWorldOk(passLaw(), c.world) != ok || impl.GateSafe(passLaw(), passBook(), c.world) != safe {
			t.Errorf("%s: another answer of %+v", what, c.world)
		}
	}
}
