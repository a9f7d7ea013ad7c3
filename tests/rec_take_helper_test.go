package tests

import (
	"fmt"
	"slices"
	"testing"

	"loop.example/wharfhall/impl"
)

func sameMessage(a, b impl.RecMessage) bool {
	return a.Kind == b.Kind && a.From == b.From && a.To == b.To && a.Ballot == b.Ballot && a.Index == b.Index &&
		a.Known == b.Known && a.Text == b.Text && slices.Equal(a.Slots, b.Slots)
}

func sameDisk(a, b impl.RecDisk) bool {
	return a.Promise == b.Promise && a.Known == b.Known && slices.Equal(a.Slots, b.Slots)
}

// sameRecorder holds a nil list and an empty one to be the same.
func sameRecorder(a, b impl.Recorder) bool {
	sameAck := func(x, y impl.RecAck) bool { return x.Index == y.Index && slices.Equal(x.From, y.From) }
	return a.Number == b.Number && a.Of == b.Of && a.Up == b.Up && sameDisk(a.Safe, b.Safe) && sameDisk(a.Disk, b.Disk) &&
		slices.EqualFunc(a.Held, b.Held, sameMessage) && slices.Equal(a.Wishes, b.Wishes) &&
		a.Lead == b.Lead && a.Trying == b.Trying && a.Ballot == b.Ballot && slices.Equal(a.Yes, b.Yes) &&
		slices.Equal(a.Best, b.Best) && slices.EqualFunc(a.Acks, b.Acks, sameAck) && a.Heard == b.Heard
}

// messageTold writes a message as far as somebody would read it.
func messageTold(m impl.RecMessage) string {
	return fmt.Sprintf("%.600q", fmt.Sprintf("%+v", m))
}

// wantTaken asks the same of the document's words by hand, so that neither is trusted alone.
func wantTaken(t *testing.T, what string, r impl.Recorder, m impl.RecMessage, want impl.Recorder) {
	t.Helper()
	if hand := takeByHand(r, m); !sameRecorder(hand, want) {
		t.Errorf("%s: by hand %s\nthat took %s is %s,\nnot %s", what, recorderTold(r), messageTold(m), recorderTold(hand), recorderTold(want))
	}
	if got := impl.RecTake(r, m); !sameRecorder(got, want) {
		t.Errorf("%s: %s\nthat took %s is %s,\nnot %s", what, recorderTold(r), messageTold(m), recorderTold(got), recorderTold(want))
	}
}

// takeCase is a message and what becomes of a recorder that takes it.
type takeCase struct {
	what string
	r    impl.Recorder
	m    impl.RecMessage
	then []recTurn
}

// wantTakes takes each message to be To its recorder and From the first one, where nothing else is told.
func wantTakes(t *testing.T, cases []takeCase) {
	t.Helper()
	for _, c := range cases {
		if c.m.From == 0 {
			c.m.From = 1
		}
		if c.m.To == 0 {
			c.m.To = c.r.Number
		}
		wantRecorder(t, c.what, c.r, true)
		want := copyRecorder(c.r)
		for _, turn := range c.then {
			turn(&want)
		}
		wantTaken(t, c.what, c.r, c.m, want)
	}
}

// turnedRecorder leaves the one that it is given as it is.
func turnedRecorder(r impl.Recorder, turns ...recTurn) impl.Recorder {
	r = copyRecorder(r)
	for _, turn := range turns {
		turn(&r)
	}
	return r
}

// holds puts messages behind what is held.
func holds(list ...impl.RecMessage) recTurn {
	return func(r *impl.Recorder) {
		for _, m := range list {
			m.From = r.Number
			r.Held = append(r.Held, m)
		}
	}
}

func refuses(to, promise int) recTurn {
	return holds(impl.RecMessage{Kind: impl.RecRefuse, To: to, Ballot: promise})
}

func quiets(r *impl.Recorder) {
	r.Lead, r.Trying, r.Ballot, r.Yes, r.Best, r.Acks = false, false, 0, nil, nil, nil
}

// hears is what following leaves of the time since a leader was heard of.
func hears(r *impl.Recorder) {
	r.Heard = 0
}

func promises(ballot int) recTurn {
	return func(r *impl.Recorder) { r.Disk.Promise = ballot }
}

func knows(known int) recTurn {
	return func(r *impl.Recorder) { r.Disk.Known = known }
}

// writes sets all slots of the disk.
func writes(row string) recTurn {
	return func(r *impl.Recorder) { r.Disk.Slots = slotRow(row) }
}

func heldTimes(n int) recTurn {
	return func(r *impl.Recorder) { r.Held = plainMessages(n, r.Number) }
}

func wishesFor(texts ...string) recTurn {
	return func(r *impl.Recorder) { r.Wishes = texts }
}

// eachUp goes over one recorder of each role, all number 2 of 3 that promised 8 and knows two places.
func eachUp(f func(what string, make func() impl.Recorder)) {
	f("quiet", quietRecorder)
	f("trying", tryingRecorder)
	f("leading", leadingRecorder)
}
