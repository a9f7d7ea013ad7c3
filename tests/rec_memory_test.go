package tests

import (
	"maps"
	"slices"
	"testing"

	"loop.example/wharfhall/impl"
)

func memorySlots() map[string][]impl.RecSlot {
	out := goodSlots()
	maps.Copy(out, wrongSlots())
	out["short"], out["longer"] = slotRow("3:a 0: 9:c"), slotRow("2:p 5:q 9:r 1:s 0:")
	return out
}

// The answer is new memory wherever its slots come from, though a and b be one list.
func TestMergesShareNoMemory(t *testing.T) {
	for what, slots := range memorySlots() {
		for other, others := range map[string][]impl.RecSlot{"nothing": nil, "few": slotRow("4:x 4:y 4:z 4:u"), "many": manySlots(130, 8)} {
			a, b := withRoom(slots), withRoom(others)
			beforeA, beforeB := opened(a), opened(b)
			wantApart(t, what+" and "+other, impl.RecMerge(a, b), a, b)
			wantApart(t, other+" and "+what, impl.RecMerge(b, a), a, b)
			wantMerge(t, what+" and "+other+" with room behind", a, b, mergeByHand(slots, others))
			wantUntouched(t, what, a, beforeA)
			wantUntouched(t, other, b, beforeB)
		}
		a := withRoom(slots)
		before := opened(a)
		wantApart(t, what+" twice", impl.RecMerge(a, a), a)
		wantApart(t, "a piece of "+what, impl.RecMerge(a[:len(a)/2], a), a)
		wantApart(t, what+" and a piece", impl.RecMerge(a, a[:len(a)/2]), a)
		wantApart(t, what+" in two answers", [][]impl.RecSlot{impl.RecMerge(a, nil), impl.RecMerge(a, nil), impl.RecMerge(nil, a)}, a)
		wantUntouched(t, what, a, before)
	}
}

func TestNoDiskIsWrittenInto(t *testing.T) {
	for what, slots := range memorySlots() {
		for _, known := range []int{-1, 0, 1, len(slots), len(slots) + 1} {
			plain := impl.RecDisk{Promise: impl.RecMaxBallot, Known: known, Slots: slots}
			x := withRoom(plain)
			before := opened(x)
			wantDisk(t, what, x, diskByHand(plain))
			wantUntouched(t, what, x, before)
		}
		plain := impl.RecMessage{Kind: impl.RecPromised, From: 1, To: 2, Slots: slots}
		m := withRoom(plain)
		before := opened(m)
		wantMessage(t, what, m, 2, messageByHand(plain, 2))
		wantUntouched(t, what, m, before)
	}
}

// What lies behind the ends of lists is neither written into nor looked at, whether it fits there or not.
func TestNoRecorderIsWrittenInto(t *testing.T) {
	d := &dice{state: 2223}
	recorders := []impl.Recorder{{}, quietRecorder(), tryingRecorder(), leadingRecorder(), fallenRecorder()}
	for range 400 {
		r := diceRecorder(d)
		recorders = append(recorders, copyRecorder(r))
		turnRecorder(d, &r)
		recorders = append(recorders, r)
	}
	for _, plain := range recorders {
		r := withRoom(plain)
		before := opened(r)
		wantRecorder(t, "with room behind", r, recorderByHand(plain))
		wantUntouched(t, "a recorder", r, before)
	}
}

// The same call gives the same answer again, whatever was asked between, and though the answer is spoiled.
func TestCallsOfRecordersKeepNothing(t *testing.T) {
	a, b := slotRow("1:a 5:b 3:c"), slotRow("2:p 4:q")
	first := impl.RecMerge(a, b)
	kept := slices.Clone(first)
	for range 3 {
		for i := range first {
			first[i] = impl.RecSlot{Ballot: 99, Text: "spoiled"}
		}
		impl.RecMerge(manySlots(300, 9), b)
		r := leadingRecorder()
		wantRecorder(t, "as it is", r, true)
		r.Acks[1].Index = 3
		wantRecorder(t, "turned", r, false)
		first = impl.RecMerge(a, b)
		if !slices.Equal(first, kept) {
			t.Errorf("%s, and then %s", slotsTold(kept), slotsTold(first))
		}
	}
	one, other := impl.RecNew(1, 3), impl.RecNew(1, 3)
	one.Held, one.Wishes = append(one.Held, impl.RecMessage{}), append(one.Wishes, "a")
	if len(other.Held)+len(other.Wishes) != 0 {
		t.Errorf("%s has got what another one was given", recorderTold(other))
	}
}
