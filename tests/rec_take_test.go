package tests

import (
	"math"
	"strings"
	"testing"

	"loop.example/wharfhall/impl"
)

// tellingMessages are messages to the second of three, one of each Kind, each of which changes at least one role.
func tellingMessages() map[int]impl.RecMessage {
	return map[int]impl.RecMessage{
		impl.RecPrepare:  {Kind: impl.RecPrepare, From: 1, To: 2, Ballot: 9},
		impl.RecPromised: {Kind: impl.RecPromised, From: 1, To: 2, Ballot: 8, Slots: slotRow("8:p 8:q 8:r 8:s")},
		impl.RecAccept:   {Kind: impl.RecAccept, From: 1, To: 2, Ballot: 9, Index: 3, Text: "z"},
		impl.RecAccepted: {Kind: impl.RecAccepted, From: 3, To: 2, Ballot: 8, Index: 3},
		impl.RecBeat:     {Kind: impl.RecBeat, From: 1, To: 2, Ballot: 9, Known: 3},
		impl.RecChosen:   {Kind: impl.RecChosen, From: 1, To: 2, Ballot: 8, Index: 3, Text: "z"},
		impl.RecNeed:     {Kind: impl.RecNeed, From: 3, To: 2, Index: 1},
		impl.RecWished:   {Kind: impl.RecWished, From: 3, To: 2, Text: "z"},
		impl.RecRefuse:   {Kind: impl.RecRefuse, From: 3, To: 2, Ballot: 9},
	}
}

// Each Kind changes just those that it is for; the tests of the Kinds tell in what.
func TestKindsThatChangeSomething(t *testing.T) {
	changed := map[int]string{
		impl.RecPrepare: "quiet trying leading", impl.RecPromised: "trying", impl.RecAccept: "quiet trying leading",
		impl.RecAccepted: "leading", impl.RecBeat: "quiet trying leading", impl.RecChosen: "quiet trying leading",
		impl.RecNeed: "leading", impl.RecWished: "quiet trying leading", impl.RecRefuse: "trying leading",
	}
	for kind, m := range tellingMessages() {
		eachUp(func(what string, make func() impl.Recorder) {
			r := make()
			got := impl.RecTake(r, m)
			if same := sameRecorder(got, r); same == strings.Contains(changed[kind], what) {
				t.Errorf("%s that took the Kind %d: is it as it was? %v: %s", what, kind, same, recorderTold(got))
			}
			wantRecorder(t, what+" that took the Kind "+count(kind), got, true)
			wantTaken(t, what, r, m, takeByHand(r, m))
		})
	}
}

func TestTakesOfRecordersThatAreNotValid(t *testing.T) {
	for what, wrong := range wrongRecorders() {
		eachUp(func(role string, make func() impl.Recorder) {
			r := make()
			wrong(&r)
			wantRecorder(t, role+", "+what, r, false)
			for _, m := range tellingMessages() {
				wantTaken(t, role+", "+what, r, m, impl.Recorder{})
				wantTaken(t, role+", "+what+", not to it", r, turnedMessage(m, func(m *impl.RecMessage) { m.To = 1 }), impl.Recorder{})
			}
			wantTaken(t, role+", "+what, r, impl.RecMessage{}, impl.Recorder{})
			for _, text := range []string{"", "z", "a", long(impl.RecMaxText + 1)} {
				wantWish(t, role+", "+what, r, text, impl.Recorder{})
			}
		})
	}
}

func TestTakesOfRecordersThatAreNotUp(t *testing.T) {
	for _, r := range []impl.Recorder{fallenRecorder(), {Number: 2, Of: 3}, {Number: 2, Of: 3, Disk: disk(8, 1, "1:a")}} {
		for _, m := range tellingMessages() {
			wantTaken(t, "not Up", r, m, r)
		}
		wantTaken(t, "not Up, and nothing to take", r, impl.RecMessage{}, r)
	}
}

// turnedMessage turns one thing of a message.
func turnedMessage(m impl.RecMessage, turn func(m *impl.RecMessage)) impl.RecMessage {
	turn(&m)
	return m
}

func TestMessagesThatAreNotForIt(t *testing.T) {
	wrongs := map[string]func(m *impl.RecMessage){
		"to the one before":      func(m *impl.RecMessage) { m.To = 1 },
		"to the one behind":      func(m *impl.RecMessage) { m.To = 3 },
		"to nobody":              func(m *impl.RecMessage) { m.To = 0 },
		"from nobody":            func(m *impl.RecMessage) { m.From = 0 },
		"from below":             func(m *impl.RecMessage) { m.From = -1 },
		"from one too many":      func(m *impl.RecMessage) { m.From = 4 },
		"of no Kind":             func(m *impl.RecMessage) { m.Kind = 0 },
		"of a Kind below all":    func(m *impl.RecMessage) { m.Kind = math.MinInt },
		"of the next Kind":       func(m *impl.RecMessage) { m.Kind = 10 },
		"of a Kind above all":    func(m *impl.RecMessage) { m.Kind = math.MaxInt },
		"a ballot below 0":       func(m *impl.RecMessage) { m.Ballot = -1 },
		"a ballot too great":     func(m *impl.RecMessage) { m.Ballot = impl.RecMaxBallot + 1 },
		"an Index below 0":       func(m *impl.RecMessage) { m.Index = -1 },
		"an Index too great":     func(m *impl.RecMessage) { m.Index = impl.RecMaxSlots + 1 },
		"a Known below 0":        func(m *impl.RecMessage) { m.Known = -1 },
		"a Known too great":      func(m *impl.RecMessage) { m.Known = impl.RecMaxSlots + 1 },
		"a text too long":        func(m *impl.RecMessage) { m.Text = long(impl.RecMaxText + 1) },
		"slots that are not ok":  func(m *impl.RecMessage) { m.Slots = slotRow("0:x") },
		"too many slots":         func(m *impl.RecMessage) { m.Slots = manySlots(impl.RecMaxSlots+1, 1) },
		"a slot's text too long": func(m *impl.RecMessage) { m.Slots = []impl.RecSlot{{Ballot: 1, Text: long(161)}} },
		"nothing":                func(m *impl.RecMessage) { *m = impl.RecMessage{} },
	}
	for what, wrong := range wrongs {
		eachUp(func(role string, make func() impl.Recorder) {
			for _, m := range tellingMessages() {
				wantTaken(t, role+": "+what, make(), turnedMessage(m, wrong), make())
			}
		})
	}
	// What is from the fourth is ok where there are four.
	four := quietRecorder()
	four.Of = 4
	wantTakes(t, []takeCase{{"from the fourth of four", four, impl.RecMessage{Kind: impl.RecPrepare, From: 4, Ballot: 9},
		[]recTurn{promises(9), hears, holds(impl.RecMessage{Kind: impl.RecPromised, To: 4, Ballot: 9, Slots: slotRow("3:a 5:b 0: 8:")})}}})
}

// What has no room is not held; all else is done as ever.
func TestMessagesThatThereIsNoRoomFor(t *testing.T) {
	accepted := impl.RecMessage{Kind: impl.RecAccepted, To: 1, Ballot: 9, Index: 3}
	promised := impl.RecMessage{Kind: impl.RecPromised, To: 1, Ballot: 9, Slots: slotRow("3:a 5:b 0: 8:")}
	need := impl.RecMessage{Kind: impl.RecNeed, To: 1, Ballot: 9, Index: 3}
	refuse := impl.RecMessage{Kind: impl.RecRefuse, To: 1, Ballot: 8}
	wished := func(text string) impl.RecMessage { return impl.RecMessage{Kind: impl.RecWished, To: 1, Text: text} }
	chosen := func(index int, text string) impl.RecMessage {
		return impl.RecMessage{Kind: impl.RecChosen, To: 1, Ballot: 8, Index: index, Text: text}
	}
	for _, c := range []struct {
		m    impl.RecMessage
		make func() impl.Recorder
		all  []impl.RecMessage
		then []recTurn
	}{
		{impl.RecMessage{Kind: impl.RecPrepare, Ballot: 9}, quietRecorder, []impl.RecMessage{promised}, []recTurn{promises(9), hears}},
		{impl.RecMessage{Kind: impl.RecPrepare, Ballot: 9}, leadingRecorder, []impl.RecMessage{promised}, []recTurn{promises(9), hears, quiets}},
		{impl.RecMessage{Kind: impl.RecPrepare, Ballot: 8}, leadingRecorder, []impl.RecMessage{refuse}, nil},
		{impl.RecMessage{Kind: impl.RecAccept, Ballot: 7, Index: 3, Text: "z"}, tryingRecorder, []impl.RecMessage{refuse}, nil},
		{impl.RecMessage{Kind: impl.RecAccept, Ballot: 9, Index: 3, Text: "z"}, tryingRecorder, []impl.RecMessage{accepted}, []recTurn{promises(9), hears, quiets, writes("3:a 5:b 9:z 8:")}},
		{impl.RecMessage{Kind: impl.RecBeat, Ballot: 7, Known: 4}, quietRecorder, []impl.RecMessage{refuse}, nil},
		{impl.RecMessage{Kind: impl.RecBeat, Ballot: 9, Known: 4}, quietRecorder, []impl.RecMessage{need, wished("c"), wished("a"), wished("\x00")}, []recTurn{promises(9), hears}},
		{impl.RecMessage{Kind: impl.RecBeat, Ballot: 9, Known: 1}, quietRecorder, []impl.RecMessage{wished("c"), wished("a"), wished("\x00")}, []recTurn{promises(9), hears}},
		{impl.RecMessage{Kind: impl.RecNeed, Index: 1}, leadingRecorder, []impl.RecMessage{chosen(1, "a"), chosen(2, "b")}, nil},
	} {
		for room := range len(c.all) + 2 {
			r := turnedRecorder(c.make(), heldTimes(impl.RecMaxHeld-room))
			then := append(c.then[:len(c.then):len(c.then)], holds(c.all[:min(room, len(c.all))]...))
			wantTakes(t, []takeCase{{"room for " + count(room), r, c.m, then}})
		}
	}
}
