package tests

import (
	"testing"

	"loop.example/wharfhall/impl"
)

// wantRecStep asks of one event at a recorder what promises 26 and 27 say, and the document's words by hand.
func wantRecStep(t *testing.T, what string, r, got, want impl.Recorder, sent, out []impl.RecMessage) {
	t.Helper()
	if !sameRecorder(got, want) || !sameSent(sent, out) {
		t.Fatalf("%s: %s\nbecame %s,\n%s,\nnot %s,\n%s", what, recorderTold(r), recorderTold(got), sentTold(sent), recorderTold(want), sentTold(out))
	}
	wantValidSent(t, what, r, got, sent)
	if what == "a fall" {
		if !sameDisk(got.Disk, r.Safe) || !sameDisk(got.Safe, r.Safe) {
			t.Fatalf("a fall of %s\nleft %s", recorderTold(r), recorderTold(got))
		}
		return
	}
	if got.Disk.Promise < r.Disk.Promise || got.Disk.Known < r.Disk.Known {
		t.Fatalf("%s: the disk of %s\nhas gone back to that of %s", what, recorderTold(r), recorderTold(got))
	}
	if what != "a tick" && !sameDisk(got.Safe, r.Safe) {
		t.Fatalf("%s: what was safe of %s\nis now %+v", what, recorderTold(r), got.Safe)
	}
}

// ticked, taken, wishing, fallen and risen are one event each, looked at.
func ticked(t *testing.T, r impl.Recorder) (impl.Recorder, []impl.RecMessage) {
	t.Helper()
	got, sent := impl.RecTick(r)
	want, out := recTickByHand(r)
	wantRecStep(t, "a tick", r, got, want, sent, out)
	return got, sent
}

func taken(t *testing.T, r impl.Recorder, m impl.RecMessage) impl.Recorder {
	t.Helper()
	got := impl.RecTake(r, m)
	wantRecStep(t, "a message", r, got, takeByHand(r, m), nil, nil)
	return got
}

func wishing(t *testing.T, r impl.Recorder, text string) impl.Recorder {
	t.Helper()
	got := impl.RecWish(r, text)
	wantRecStep(t, "a wish", r, got, recWishByHand(r, text), nil, nil)
	return got
}

func fallen(t *testing.T, r impl.Recorder) impl.Recorder {
	t.Helper()
	got := impl.RecFall(r)
	wantRecStep(t, "a fall", r, got, fallByHand(r), nil, nil)
	return got
}

func risen(t *testing.T, r impl.Recorder) impl.Recorder {
	t.Helper()
	got := impl.RecRise(r)
	wantRecStep(t, "a rise", r, got, riseByHand(r), nil, nil)
	return got
}

// One recorder goes through rows of events of all sorts, with messages that nobody may have sent.
func TestDrawnRowsOfEvents(t *testing.T) {
	d := &dice{state: 2601}
	led, tried, lost := 0, 0, 0
	for range 600 {
		r := diceTicker(d)
		for range 80 {
			before := r
			switch d.below(20) {
			case 0:
				r = fallen(t, r)
			case 1, 2:
				r = risen(t, r)
			case 3, 4:
				r = wishing(t, r, oneOf(d, "", "a", "b", long(impl.RecMaxText+1), "w"+count(d.below(40))))
			case 5, 6, 7, 8, 9, 10, 11, 12:
				r, _ = ticked(t, r)
			default:
				r = taken(t, r, diceLetter(d, r))
			}
			if r.Lead && !before.Lead {
				led++
			}
			if r.Trying && r.Ballot > before.Disk.Promise {
				tried++
			}
			if !sameDisk(r.Disk, before.Disk) && !r.Up {
				lost++
			}
		}
	}
	if led < 100 || tried < 100 || lost < 100 {
		t.Errorf("the dice showed too little: %d came to lead, %d tried, %d lost something", led, tried, lost)
	}
}

// fellows are recorders and what is between them.
type fellows struct {
	list   []impl.Recorder
	flight []impl.RecMessage
}

func newFellows(of int) *fellows {
	f := &fellows{}
	for n := range of {
		f.list = append(f.list, impl.RecNew(n+1, of))
	}
	return f
}

func (f *fellows) tick(t *testing.T, at int) {
	t.Helper()
	r, sent := ticked(t, f.list[at])
	f.list[at] = r
	if len(f.flight) < 600 {
		f.flight = append(f.flight, sent...)
	}
}

// take takes a message out of the flight, to whom it is for.
func (f *fellows) take(t *testing.T, at int) {
	t.Helper()
	m := f.flight[at]
	f.flight = append(f.flight[:at:at], f.flight[at+1:]...)
	f.list[m.To-1] = taken(t, f.list[m.To-1], m)
}

// bring takes all that is under way by now, in order.
func (f *fellows) bring(t *testing.T) {
	t.Helper()
	for range len(f.flight) {
		f.take(t, 0)
	}
}

// wantOneRow keeps what was known at each place, and asks that it is never another text, whoever falls.
func (f *fellows) wantOneRow(t *testing.T, row map[int]string) {
	t.Helper()
	for _, r := range f.list {
		for i, text := range impl.RecBook(r) {
			if was, there := row[i]; there && was != text {
				t.Fatalf("the place %d was known as %q, and is known as %q to %s", i+1, was, text, recorderTold(r))
			}
			row[i] = text
		}
	}
}

// happens lets one drawn thing happen.
func (f *fellows) happens(t *testing.T, d *dice) {
	t.Helper()
	at := d.below(len(f.list))
	switch d.below(40) {
	case 0:
		f.list[at] = fallen(t, f.list[at])
	case 1, 2:
		f.list[at] = risen(t, f.list[at])
	case 3:
		f.list[at] = wishing(t, f.list[at], "w"+count(d.below(12)))
	case 4, 5, 6, 7, 8, 9, 10, 11:
		f.tick(t, at)
	case 12:
		if len(f.flight) > 0 {
			f.flight = append(f.flight, f.flight[d.below(len(f.flight))])
		}
	case 13:
		if len(f.flight) > 0 {
			f.flight = f.flight[1:]
		}
	default:
		if len(f.flight) > 0 {
			f.take(t, d.below(min(len(f.flight), 12)))
		}
	}
}

// Recorders that lose what was not safe, over links that lose, double and turn around, never know two texts for one place:
// nothing is told before the disk is safe.
func TestDrawnFellows(t *testing.T) {
	t.Parallel()
	d := &dice{state: 2602}
	known := 0
	for n := range 500 {
		f, row := newFellows(1+n%impl.RecMaxRecorders), map[int]string{}
		for range 900 {
			f.happens(t, d)
			f.wantOneRow(t, row)
		}
		known += len(row)
	}
	if known < 1000 {
		t.Errorf("the dice showed too little: %d places became known", known)
	}
}

// With nothing in the way, a wish of each comes to be known to all.
func TestFellowsInCalm(t *testing.T) {
	for of := 1; of <= impl.RecMaxRecorders; of++ {
		f := newFellows(of)
		for i := range f.list {
			f.list[i] = wishing(t, f.list[i], "w"+count(i))
		}
		for range 40 {
			for i := range f.list {
				f.tick(t, i)
			}
			f.bring(t)
		}
		leaders := 0
		for _, r := range f.list {
			if r.Lead {
				leaders++
			}
			if len(impl.RecBook(r)) != of || len(r.Wishes) != 0 {
				t.Errorf("of %d: %s", of, recorderTold(r))
			}
		}
		if leaders != 1 {
			t.Errorf("of %d: %d lead", of, leaders)
		}
	}
}
