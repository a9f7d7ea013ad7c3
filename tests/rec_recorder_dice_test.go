package tests

import (
	"reflect"
	"slices"
	"testing"

	"loop.example/wharfhall/impl"
)

func someNumbers(d *dice, of int) []int {
	var out []int
	for n := 1; n <= of; n++ {
		if d.below(2) == 0 {
			out = append(out, n)
		}
	}
	return out
}

func diceAcks(d *dice, of int) []impl.RecAck {
	var acks []impl.RecAck
	for index := d.below(4); index <= impl.RecMaxSlots && len(acks) < 5; index += 1 + d.below(40) {
		if index > 0 {
			acks = append(acks, impl.RecAck{Index: index, From: someNumbers(d, of)})
		}
	}
	return acks
}

// diceRecorder is a valid recorder.
func diceRecorder(d *dice) impl.Recorder {
	r := impl.Recorder{Of: 1 + d.below(impl.RecMaxRecorders), Safe: diceDisk(d, 0), Disk: diceDisk(d, 1)}
	r.Number = 1 + d.below(r.Of)
	if d.below(5) == 0 {
		return r
	}
	r.Up, r.Heard = true, oneOf(d, 0, d.below(20), impl.RecMaxBallot)
	for range oneOf(d, 0, d.below(4), d.below(9)) {
		r.Held = append(r.Held, diceMessage(d, r.Number, r.Of))
	}
	r.Wishes = someInOrder(d, names(oneOf(d, 0, 3, impl.RecMaxWishes)))
	switch d.below(3) {
	case 0:
		r.Lead, r.Acks = true, diceAcks(d, r.Of)
	case 1:
		r.Trying, r.Yes, r.Best = true, someNumbers(d, r.Of), diceSlots(d, d.below(6), impl.RecMaxBallot)
	default:
		return r
	}
	r.Ballot = oneOf(d, 1, r.Disk.Promise, 1+d.below(r.Disk.Promise))
	return r
}

// turnRecorder turns one thing of a recorder.
func turnRecorder(d *dice, r *impl.Recorder) {
	switch d.below(14) {
	case 0:
		flag := oneOf(d, &r.Up, &r.Lead, &r.Trying)
		*flag = !*flag
	case 1:
		slots := oneOf(d, &r.Safe.Slots, &r.Disk.Slots, &r.Best)
		*slots = turnSlots(d, *slots)
	case 2:
		r.Yes = oneOf(d, turnedAround(d, r.Yes), append(slices.Clone(r.Yes), 1+d.below(6)), someNumbers(d, 6))
	case 3:
		r.Acks = oneOf(d, nil, turnedAround(d, r.Acks), append(slices.Clone(r.Acks), impl.RecAck{Index: d.below(impl.RecMaxSlots + 2)}))
	case 4:
		if len(r.Acks) > 0 {
			a := &r.Acks[d.below(len(r.Acks))]
			a.Index, a.From = a.Index+oneOf(d, 0, 0, -1, 1), oneOf(d, a.From, turnedAround(d, a.From), []int{d.below(7)})
		}
	case 5:
		r.Wishes = oneOf(d, turnedAround(d, r.Wishes), append(slices.Clone(r.Wishes), oneOf(d, "", "n100", "new", long(161))), names(21))
	case 6:
		r.Held = oneOf(d, turnedAround(d, r.Held), append(slices.Clone(r.Held), diceMessage(d, 1+d.below(r.Of), r.Of)), plainMessages(401, r.Number))
	case 7:
		if len(r.Held) > 0 {
			turnMessage(d, &r.Held[d.below(len(r.Held))])
		}
	case 8:
		r.Yes, r.Best, r.Acks = nil, nil, nil
	case 9:
		r.Held, r.Wishes, r.Heard = nil, nil, 0
	default:
		n := oneOf(d, &r.Number, &r.Of, &r.Ballot, &r.Heard, &r.Safe.Promise, &r.Disk.Promise, &r.Safe.Known, &r.Disk.Known)
		*n = oneOf(d, *n-1, *n+1, 0, -1, 1, 5, 6, r.Disk.Promise, r.Disk.Promise+1, impl.RecMaxBallot, impl.RecMaxBallot+1)
	}
}

// A recorder of which something is turned is valid just where the document's words still hold of it.
func TestDrawnRecorders(t *testing.T) {
	t.Parallel()
	d := &dice{state: 2222}
	seen, roles := map[bool]int{}, map[[3]bool]int{}
	for range 15000 {
		r := diceRecorder(d)
		if !recorderByHand(r) {
			t.Fatalf("%s is not valid", recorderTold(r))
		}
		wantRecorder(t, "drawn", r, true)
		for range 1 + d.below(3) {
			turnRecorder(d, &r)
			if r.Of < 1 {
				break // There is nobody left to send a message.
			}
		}
		kept := copyRecorder(r)
		want := recorderByHand(r)
		seen[want]++
		if want {
			roles[[3]bool{r.Up, r.Lead, r.Trying}]++
		}
		wantRecorder(t, "turned", r, want)
		if !reflect.DeepEqual(r, kept) {
			t.Fatalf("%s was written into: it was %s", recorderTold(r), recorderTold(kept))
		}
	}
	if seen[true] < 2000 || seen[false] < 2000 || len(roles) != 4 {
		t.Errorf("the dice showed too little: %v, %v", seen, roles)
	}
}
