package tests

import (
	"fmt"
	"slices"
	"testing"

	"loop.example/wharfhall/impl"
)

// quietRecorder, tryingRecorder and leadingRecorder are valid and have all that
// such a one may have; fallenRecorder is not Up. Every call gives new memory.
func quietRecorder() impl.Recorder {
	return impl.Recorder{Number: 2, Of: 3, Up: true,
		Safe: disk(5, 1, "3:a 0:"),
		Disk: disk(8, 2, "3:a 5:b 0: 8:"),
		Held: []impl.RecMessage{
			{Kind: impl.RecPromised, From: 2, To: 3, Ballot: 8, Slots: slotRow("3:a 5:b 0: 8:")},
			{Kind: impl.RecAccepted, From: 2, To: 1, Ballot: 7, Index: 4},
			{Kind: impl.RecWished, From: 2, To: 2, Text: "c"},
		},
		Wishes: []string{"c", "a", "\x00"},
		Heard:  3,
	}
}

func tryingRecorder() impl.Recorder {
	r := quietRecorder()
	r.Trying, r.Ballot = true, 8
	r.Yes, r.Best = []int{1, 3}, slotRow("7:x 0: 9:y")
	return r
}

func leadingRecorder() impl.Recorder {
	r := quietRecorder()
	r.Lead, r.Ballot = true, 8
	r.Acks = []impl.RecAck{{Index: 3, From: []int{1, 2}}, {Index: 4}, {Index: 9, From: []int{1, 2, 3}}}
	return r
}

func fallenRecorder() impl.Recorder {
	r := quietRecorder()
	r.Up, r.Held, r.Wishes, r.Heard = false, nil, nil, 0
	return r
}

func validRecorders() map[string]func() impl.Recorder {
	return map[string]func() impl.Recorder{"quiet": quietRecorder, "trying": tryingRecorder, "leading": leadingRecorder, "fallen": fallenRecorder}
}

// recorderTold writes a recorder as far as somebody would read it.
func recorderTold(r impl.Recorder) string {
	return fmt.Sprintf("%.900q", fmt.Sprintf("%+v", r))
}

func wantRecorder(t *testing.T, what string, r impl.Recorder, want bool) {
	t.Helper()
	if got := impl.RecValid(r); got != want {
		t.Errorf("%s: RecValid of %s = %v", what, recorderTold(r), got)
	}
}

// recTurn turns one thing of a recorder.
type recTurn func(r *impl.Recorder)

// wrongRecorders turn one of any role that is Up so that it is not valid any more.
func wrongRecorders() map[string]recTurn {
	return map[string]recTurn{
		"nothing":                   func(r *impl.Recorder) { *r = impl.Recorder{} },
		"Of too many":               func(r *impl.Recorder) { r.Of = impl.RecMaxRecorders + 1 },
		"not one of them":           func(r *impl.Recorder) { r.Number, r.Held = 4, nil },
		"known and not taken":       func(r *impl.Recorder) { r.Disk.Known = 3 },
		"known and not there":       func(r *impl.Recorder) { r.Disk.Known = 9 },
		"known below 0":             func(r *impl.Recorder) { r.Disk.Known = -1 },
		"safe with too much known":  func(r *impl.Recorder) { r.Safe.Known = 2 },
		"a ballot not promised":     func(r *impl.Recorder) { r.Disk.Promise = 7 },
		"one too many held":         func(r *impl.Recorder) { r.Held = plainMessages(impl.RecMaxHeld+1, 2) },
		"held of another one":       func(r *impl.Recorder) { r.Held[0].From = 1 },
		"one too many wishes":       func(r *impl.Recorder) { r.Wishes = names(impl.RecMaxWishes + 1) },
		"a wish twice":              func(r *impl.Recorder) { r.Wishes = []string{"x", "x"} },
		"leads and tries":           func(r *impl.Recorder) { r.Lead, r.Trying = true, true },
		"leads under no ballot":     func(r *impl.Recorder) { r.Lead, r.Trying, r.Ballot = true, false, 0 },
		"quiet with a ballot":       func(r *impl.Recorder) { r.Lead, r.Trying, r.Ballot = false, false, 3 },
		"an ack of no place":        func(r *impl.Recorder) { r.Acks = []impl.RecAck{{Index: 0, From: []int{1}}} },
		"acks of one who tries":     func(r *impl.Recorder) { r.Lead, r.Trying, r.Ballot, r.Acks = false, true, 8, []impl.RecAck{{Index: 1}} },
		"who promised out of order": func(r *impl.Recorder) { r.Yes = []int{3, 1} },
		"Heard below 0":             func(r *impl.Recorder) { r.Heard = -1 },
		"Heard above all":           func(r *impl.Recorder) { r.Heard = impl.RecMaxBallot + 1 },
		"not Up, with something":    func(r *impl.Recorder) { r.Up = false },
		"nobody, and Up":            func(r *impl.Recorder) { *r = impl.Recorder{Up: true} },
		"safe, not promised":        func(r *impl.Recorder) { r.Safe.Promise = 2 },
		"an empty wish":             func(r *impl.Recorder) { r.Wishes = []string{""} },
		"one slot too many":         func(r *impl.Recorder) { r.Disk.Slots = manySlots(impl.RecMaxSlots+1, 8) },
	}
}

// wantRecTurned turns a recorder in each of several ways, each alone.
func wantRecTurned(t *testing.T, make func() impl.Recorder, want bool, turns map[string]recTurn) {
	t.Helper()
	for what, turn := range turns {
		r := make()
		turn(&r)
		wantRecorder(t, what, r, want)
	}
}

// wantEachTurned turns every kind of recorder.
func wantEachTurned(t *testing.T, want bool, turns map[string]recTurn) {
	t.Helper()
	for what, make := range validRecorders() {
		for how, turn := range turns {
			wantRecTurned(t, make, want, map[string]recTurn{what + ": " + how: turn})
		}
	}
}

func wantMessage(t *testing.T, what string, m impl.RecMessage, of int, want bool) {
	t.Helper()
	if got := impl.RecMessageOk(m, of); got != want {
		t.Errorf("%s: RecMessageOk of %.600q for %d = %v", what, fmt.Sprintf("%+v", m), of, got)
	}
}

// plainMessages are n messages of a recorder, and no more than that.
func plainMessages(n, number int) []impl.RecMessage {
	return slices.Repeat([]impl.RecMessage{{Kind: impl.RecPrepare, From: number, To: 1}}, n)
}

// messageByHand is what chapter 22 says of a message.
func messageByHand(m impl.RecMessage, of int) bool {
	return m.Kind >= 1 && m.Kind <= 9 && m.From >= 1 && m.From <= of && m.To >= 1 && m.To <= of &&
		m.Ballot >= 0 && m.Ballot <= 1000000 && m.Index >= 0 && m.Index <= 120 && m.Known >= 0 && m.Known <= 120 &&
		len(m.Text) <= 160 && slotsByHand(m.Slots)
}

// numbersByHand22 says whether numbers ascend and are in 1..of.
func numbersByHand22(numbers []int, of int) bool {
	ok := true
	for i, n := range numbers {
		ok = ok && n >= 1 && n <= of && (i == 0 || n > numbers[i-1])
	}
	return ok
}

// keptByHand is what chapter 22 says of a recorder's disks, messages, wishes and ticks.
func keptByHand(r impl.Recorder) bool {
	ok := diskByHand(r.Safe) && diskByHand(r.Disk) && len(r.Held) <= 400 && len(r.Wishes) <= 20 && r.Heard >= 0 && r.Heard <= 1000000
	for _, m := range r.Held {
		ok = ok && messageByHand(m, r.Of) && m.From == r.Number
	}
	for i, wish := range r.Wishes {
		ok = ok && wish != "" && len(wish) <= 160
		for j, other := range r.Wishes {
			ok = ok && (i == j || wish != other)
		}
	}
	return ok
}

// choiceByHand is what chapter 22 says of a recorder's part in who leads.
func choiceByHand(r impl.Recorder) bool {
	ok := numbersByHand22(r.Yes, r.Of) && slotsByHand(r.Best)
	for i, a := range r.Acks {
		ok = ok && numbersByHand22(a.From, r.Of) && a.Index >= 1 && a.Index <= 120 && (i == 0 || a.Index > r.Acks[i-1].Index)
	}
	switch {
	case r.Lead && r.Trying:
		return false
	case r.Lead:
		return ok && r.Ballot >= 1 && r.Ballot <= r.Disk.Promise && len(r.Yes) == 0 && len(r.Best) == 0
	case r.Trying:
		return ok && r.Ballot >= 1 && r.Ballot <= r.Disk.Promise && len(r.Acks) == 0
	}
	return ok && r.Ballot == 0 && len(r.Yes) == 0 && len(r.Best) == 0 && len(r.Acks) == 0
}

// recorderByHand is what chapter 22 says of a recorder.
func recorderByHand(r impl.Recorder) bool {
	if r.Of < 1 || r.Of > 5 || r.Number < 1 || r.Number > r.Of || !keptByHand(r) || !choiceByHand(r) {
		return false
	}
	return r.Up || !r.Lead && !r.Trying && len(r.Held) == 0 && len(r.Wishes) == 0 && r.Heard == 0
}

func copyMessages(list []impl.RecMessage) []impl.RecMessage {
	out := slices.Clone(list)
	for i := range out {
		out[i].Slots = slices.Clone(out[i].Slots)
	}
	return out
}

func copyRecorder(r impl.Recorder) impl.Recorder {
	r.Safe.Slots, r.Disk.Slots, r.Best = slices.Clone(r.Safe.Slots), slices.Clone(r.Disk.Slots), slices.Clone(r.Best)
	r.Held, r.Wishes, r.Yes, r.Acks = copyMessages(r.Held), slices.Clone(r.Wishes), slices.Clone(r.Yes), slices.Clone(r.Acks)
	for i := range r.Acks {
		r.Acks[i].From = slices.Clone(r.Acks[i].From)
	}
	return r
}
