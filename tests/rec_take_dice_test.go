package tests

import (
	"testing"

	"loop.example/wharfhall/impl"
)

// diceTaker is a valid recorder, mostly Up, with few enough ballots and texts for them to meet.
func diceTaker(d *dice) impl.Recorder {
	r := diceRecorder(d)
	if d.below(3) > 0 {
		promise := 1 + d.below(6)
		r.Disk = impl.RecDisk{Promise: promise, Slots: diceSlots(d, oneOf(d, 0, 1, d.below(8), d.below(8)), promise)}
		for r.Disk.Known < len(r.Disk.Slots) && d.below(4) > 0 {
			r.Disk.Slots[r.Disk.Known].Ballot = max(1, r.Disk.Slots[r.Disk.Known].Ballot)
			r.Disk.Known++
		}
	}
	if r.Lead || r.Trying {
		r.Ballot = oneOf(d, r.Disk.Promise, 1+d.below(r.Disk.Promise))
	}
	if r.Lead && d.below(2) == 0 {
		r.Acks = nil
		for index := max(1, r.Disk.Known); index < min(r.Disk.Known+5, impl.RecMaxSlots); index++ {
			r.Acks = append(r.Acks, impl.RecAck{Index: index, From: someNumbers(d, r.Of)})
		}
		for i := r.Disk.Known; i < len(r.Disk.Slots) && d.below(6) > 0; i++ {
			r.Disk.Slots[i].Ballot = r.Ballot
		}
	}
	if r.Up && d.below(6) == 0 {
		r.Held = plainMessages(impl.RecMaxHeld-d.below(4), r.Number)
	}
	if r.Up && d.below(3) == 0 {
		r.Wishes = someInOrder(d, []string{"a", "b", "c", "a\xff", "w"})
	}
	return r
}

// diceLetter is a message, mostly to a recorder, with numbers near those that it has.
func diceLetter(d *dice, r impl.Recorder) impl.RecMessage {
	m := diceMessage(d, 1+d.below(r.Of), r.Of)
	if d.below(8) > 0 {
		m.To = r.Number
	}
	ballot := oneOf(d, r.Ballot, r.Ballot, r.Disk.Promise, r.Disk.Promise, r.Disk.Promise-1, r.Disk.Promise+1, r.Ballot+1, m.Ballot)
	m.Ballot = min(max(ballot, 0), impl.RecMaxBallot)
	index := oneOf(d, r.Disk.Known, r.Disk.Known+1, r.Disk.Known+1, r.Disk.Known+2, len(r.Disk.Slots), len(r.Disk.Slots)+1, len(r.Disk.Slots)+3, m.Index)
	m.Index = min(index, impl.RecMaxSlots)
	if m.Kind == impl.RecNeed && d.below(2) == 0 {
		m.Index = d.below(r.Disk.Known + 1)
	}
	m.Known = min(oneOf(d, r.Disk.Known, r.Disk.Known+1, r.Disk.Known+3, len(r.Disk.Slots), m.Known), impl.RecMaxSlots)
	m.Text = oneOf(d, m.Text, "a", "b", "c", "d"+count(d.below(9)))
	return m
}

// wantValidTaken is promise 26: what a valid recorder becomes is valid, and all that it is to send is ok.
func wantValidTaken(t *testing.T, what string, r, got impl.Recorder) {
	t.Helper()
	if !impl.RecValid(got) || !recorderByHand(got) {
		t.Fatalf("%s: %s became %s, which is not valid", what, recorderTold(r), recorderTold(got))
	}
	for _, m := range got.Held {
		if !impl.RecMessageOk(m, got.Of) || m.From != got.Number {
			t.Fatalf("%s: %s holds %s", what, recorderTold(got), messageTold(m))
		}
	}
	if got.Disk.Promise < r.Disk.Promise || got.Disk.Known < r.Disk.Known || !sameDisk(got.Safe, r.Safe) {
		t.Fatalf("%s: the disks of %s have gone back to those of %s", what, recorderTold(r), recorderTold(got))
	}
}

// takesSeen counts what was drawn: of each Kind how often it changed something, and how often not.
type takesSeen map[int]map[bool]int

func (s takesSeen) add(kind int, changed bool) {
	if s[kind] == nil {
		s[kind] = map[bool]int{}
	}
	s[kind][changed]++
}

func TestDrawnTakes(t *testing.T) {
	t.Parallel()
	d := &dice{state: 2301}
	seen := takesSeen{}
	for range 30000 {
		r := diceTaker(d)
		m := diceLetter(d, r)
		want := takeByHand(r, m)
		wantTaken(t, "drawn", r, m, want)
		wantValidTaken(t, "drawn", r, impl.RecTake(r, m))
		if r.Up && m.To == r.Number {
			seen.add(m.Kind, !sameRecorder(r, want))
		}
		if t.Failed() {
			return
		}
	}
	for kind := impl.RecPrepare; kind <= impl.RecRefuse; kind++ {
		if seen[kind][true] < 100 || seen[kind][false] < 100 && kind != impl.RecPrepare && kind != impl.RecAccept && kind != impl.RecBeat {
			t.Errorf("the dice showed too little of the Kind %d: %v", kind, seen[kind])
		}
	}
}

// What is turned so that it is ok no more, or is to another one, is not taken; a recorder that is not valid is nothing.
func TestDrawnTakesOfWhatIsTurned(t *testing.T) {
	t.Parallel()
	d := &dice{state: 2302}
	seen := map[[2]bool]int{}
	for range 15000 {
		r := diceTaker(d)
		m := diceLetter(d, r)
		if d.below(2) == 0 {
			turnRecorder(d, &r)
		}
		if d.below(2) == 0 {
			turnMessage(d, &m)
		}
		seen[[2]bool{recorderByHand(r), messageByHand(m, r.Of)}]++
		wantTaken(t, "turned", r, m, takeByHand(r, m))
		wantWish(t, "turned", r, m.Text, recWishByHand(r, m.Text))
		if t.Failed() {
			return
		}
	}
	if len(seen) != 4 {
		t.Errorf("the dice showed too little: %v", seen)
	}
	for which, n := range seen {
		if n < 500 {
			t.Errorf("the dice showed too little of %v: %v", which, seen)
		}
	}
}

// A recorder takes one message behind another, and wishes between, as the words say of each; it never ceases to be valid.
func TestDrawnRowsOfTakes(t *testing.T) {
	t.Parallel()
	d := &dice{state: 2303}
	led, known := 0, 0
	for range 800 {
		r := diceTaker(d)
		for range 60 {
			before := r
			if d.below(6) == 0 {
				text := oneOf(d, "", "a", "b", long(impl.RecMaxText+1), "w"+count(d.below(40)))
				want := recWishByHand(r, text)
				r = impl.RecWish(r, text)
				if !sameRecorder(r, want) {
					t.Fatalf("%s\nis to bring in %q: %s,\nnot %s", recorderTold(before), text, recorderTold(r), recorderTold(want))
				}
			} else {
				m := diceLetter(d, r)
				want := takeByHand(r, m)
				r = impl.RecTake(r, m)
				if !sameRecorder(r, want) {
					t.Fatalf("%s\ntook %s: %s,\nnot %s", recorderTold(before), messageTold(m), recorderTold(r), recorderTold(want))
				}
			}
			wantValidTaken(t, "in a row", before, r)
			if r.Lead && !before.Lead {
				led++
			}
			known += r.Disk.Known - before.Disk.Known
		}
	}
	if led < 20 || known < 500 {
		t.Errorf("the dice showed too little: %d came to lead, %d places became known", led, known)
	}
}

func TestDrawnWishes(t *testing.T) {
	t.Parallel()
	d := &dice{state: 2304}
	seen := map[bool]int{}
	for range 10000 {
		r := diceTaker(d)
		if r.Up && d.below(6) == 0 {
			r.Wishes = names(impl.RecMaxWishes - d.below(3))
		}
		text := oneOf(d, "", "a", "b", "c", "a\xff", "w", "new", long(d.below(impl.RecMaxText+3)))
		want := recWishByHand(r, text)
		seen[sameRecorder(want, r)]++
		wantWish(t, "drawn", r, text, want)
		wantValidTaken(t, "a wish", r, impl.RecWish(r, text))
		if t.Failed() {
			return
		}
	}
	if seen[true] < 1000 || seen[false] < 1000 {
		t.Errorf("the dice showed too little: %v", seen)
	}
}
