package tests

import (
	"fmt"
	"slices"
	"testing"

	"loop.example/wharfhall/impl"
)

func sentTold(list []impl.RecMessage) string {
	return fmt.Sprintf("%d sent: %.900q", len(list), fmt.Sprintf("%+v", list))
}

func sameSent(a, b []impl.RecMessage) bool {
	return slices.EqualFunc(a, b, sameMessage)
}

// wantRecTicked asks the same of the document's words by hand, so that neither is trusted alone.
func wantRecTicked(t *testing.T, what string, r, want impl.Recorder, sent []impl.RecMessage) {
	t.Helper()
	if hand, out := recTickByHand(r); !sameRecorder(hand, want) || !sameSent(out, sent) {
		t.Errorf("%s: by hand a tick of %s\nis %s,\n%s,\nnot %s,\n%s", what, recorderTold(r), recorderTold(hand), sentTold(out), recorderTold(want), sentTold(sent))
	}
	if got, out := impl.RecTick(r); !sameRecorder(got, want) || !sameSent(out, sent) {
		t.Errorf("%s: a tick of %s\nis %s,\n%s,\nnot %s,\n%s", what, recorderTold(r), recorderTold(got), sentTold(out), recorderTold(want), sentTold(sent))
	}
}

// recTickCase is a recorder, and what a tick makes of it beside what every tick does; sent is what goes behind what was held.
type recTickCase struct {
	what string
	r    impl.Recorder
	then []recTurn
	sent []impl.RecMessage
}

// everyTick is what each tick does that nothing else is told of: the disk is safe, nothing is held, and one more tick has gone by.
func everyTick(r *impl.Recorder) {
	r.Safe = copyRecorder(*r).Disk
	r.Held = nil
	r.Heard++
}

func wantRecTicks(t *testing.T, cases []recTickCase) {
	t.Helper()
	for _, c := range cases {
		wantRecorder(t, c.what, c.r, true)
		want := turnedRecorder(c.r, append([]recTurn{everyTick}, c.then...)...)
		wantRecTicked(t, c.what, c.r, want, append(slices.Clone(c.r.Held), sentBy(c.r.Number, c.sent)...))
	}
}

// sentBy sets who sends.
func sentBy(number int, list []impl.RecMessage) []impl.RecMessage {
	out := slices.Clone(list)
	for i := range out {
		out[i].From = number
	}
	return out
}

// othersOf are all numbers of a recorder's fellows, in order.
func othersOf(r impl.Recorder) []int {
	var out []int
	for n := 1; n <= r.Of; n++ {
		if n != r.Number {
			out = append(out, n)
		}
	}
	return out
}

// beats are what a leader sends first.
func beats(r impl.Recorder, known int) []impl.RecMessage {
	var out []impl.RecMessage
	for _, to := range othersOf(r) {
		out = append(out, impl.RecMessage{Kind: impl.RecBeat, To: to, Ballot: r.Ballot, Known: known})
	}
	return out
}

// offers are what a leader sends of places, from one on.
func offers(r impl.Recorder, first int, texts ...string) []impl.RecMessage {
	var out []impl.RecMessage
	for i, text := range texts {
		for _, to := range othersOf(r) {
			out = append(out, impl.RecMessage{Kind: impl.RecAccept, To: to, Ballot: r.Ballot, Index: first + i, Text: text})
		}
	}
	return out
}

// tries is what one does that was too long without a leader, and has a next ballot.
func tries(ballot int) recTurn {
	return func(r *impl.Recorder) {
		quiets(r)
		r.Heard, r.Trying, r.Ballot, r.Disk.Promise = 0, true, ballot, ballot
		for _, to := range othersOf(*r) {
			holds(impl.RecMessage{Kind: impl.RecPrepare, To: to, Ballot: ballot})(r)
		}
	}
}

func heardTimes(n int) recTurn {
	return func(r *impl.Recorder) { r.Heard = n }
}

// isNumber makes one another one's fellow; what it held is of its new number.
func isNumber(number, of int) recTurn {
	return func(r *impl.Recorder) {
		r.Number, r.Of, r.Held = number, of, nil
	}
}
