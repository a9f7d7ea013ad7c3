package tests

import (
	"math"
	"strings"
	"testing"

	"loop.example/wharfhall/impl"
)

// fullMessage has something in each field.
func fullMessage() impl.RecMessage {
	return impl.RecMessage{Kind: impl.RecAccept, From: 2, To: 3, Ballot: 7, Index: 4, Known: 5, Text: "a", Slots: slotRow("1:a 0: 9:c")}
}

func TestKindsOfMessages(t *testing.T) {
	for name, c := range map[string]struct{ got, want int }{
		"RecPrepare": {impl.RecPrepare, 1}, "RecPromised": {impl.RecPromised, 2}, "RecAccept": {impl.RecAccept, 3},
		"RecAccepted": {impl.RecAccepted, 4}, "RecBeat": {impl.RecBeat, 5}, "RecChosen": {impl.RecChosen, 6},
		"RecNeed": {impl.RecNeed, 7}, "RecWished": {impl.RecWished, 8}, "RecRefuse": {impl.RecRefuse, 9},
	} {
		if c.got != c.want {
			t.Errorf("%s is %d, not %d", name, c.got, c.want)
		}
	}
	for kind := -3; kind <= 13; kind++ {
		m := impl.RecMessage{Kind: kind, From: 1, To: 1}
		wantMessage(t, "Kind "+count(kind), m, 1, 1 <= kind && kind <= 9)
		full := fullMessage()
		full.Kind = kind
		wantMessage(t, "full, Kind "+count(kind), full, 3, 1 <= kind && kind <= 9)
	}
	for _, kind := range []int{math.MinInt, math.MaxInt, 100, -100} {
		wantMessage(t, "Kind "+count(kind), impl.RecMessage{Kind: kind, From: 1, To: 1}, 1, false)
	}
	wantMessage(t, "nothing", impl.RecMessage{}, 3, false)
	wantMessage(t, "nothing, for none", impl.RecMessage{}, 0, false)
}

// messageNumber sets a number of a message to values that it may have, and to ones that it may not.
type messageNumber struct {
	what      string
	set       func(m *impl.RecMessage, n int)
	good, bad []int
}

func TestNumbersOfMessages(t *testing.T) {
	ballots, slots := impl.RecMaxBallot, impl.RecMaxSlots
	for _, c := range []messageNumber{
		{"From", func(m *impl.RecMessage, n int) { m.From = n }, []int{1, 2, 3}, []int{-1, 0, 4, 5}},
		{"To", func(m *impl.RecMessage, n int) { m.To = n }, []int{1, 2, 3}, []int{-1, 0, 4, 5}},
		{"Ballot", func(m *impl.RecMessage, n int) { m.Ballot = n }, []int{0, 1, ballots - 1, ballots}, []int{-1, ballots + 1}},
		{"Index", func(m *impl.RecMessage, n int) { m.Index = n }, []int{0, 1, slots - 1, slots}, []int{-1, slots + 1, ballots}},
		{"Known", func(m *impl.RecMessage, n int) { m.Known = n }, []int{0, 1, slots - 1, slots}, []int{-1, slots + 1, ballots}},
	} {
		for kind := impl.RecPrepare; kind <= impl.RecRefuse; kind++ {
			for _, n := range c.good {
				m := fullMessage()
				m.Kind = kind
				c.set(&m, n)
				wantMessage(t, c.what+" "+count(n), m, 3, true)
			}
			for _, n := range append([]int{math.MinInt, math.MaxInt}, c.bad...) {
				m := fullMessage()
				m.Kind = kind
				c.set(&m, n)
				wantMessage(t, c.what+" "+count(n), m, 3, false)
			}
		}
	}
}

// From and To are in 1..of, whatever of is.
func TestHowManyAMessageIsFor(t *testing.T) {
	for of := -2; of <= 7; of++ {
		for from := -1; from <= 8; from++ {
			for to := -1; to <= 8; to++ {
				m := impl.RecMessage{Kind: impl.RecBeat, From: from, To: to}
				want := 1 <= from && from <= of && 1 <= to && to <= of
				wantMessage(t, "from "+count(from)+" to "+count(to), m, of, want)
			}
		}
	}
	for of, want := range map[int]bool{math.MinInt: false, -1: false, 0: false, 2: false, 3: true, 1000: true, math.MaxInt: true} {
		wantMessage(t, "for "+count(of), fullMessage(), of, want)
	}
}

func TestTextsOfMessages(t *testing.T) {
	for n := range 2*impl.RecMaxText + 10 {
		m := fullMessage()
		m.Text = long(n)
		wantMessage(t, "a text of bytes: "+count(n), m, 3, n <= impl.RecMaxText)
		m = impl.RecMessage{Kind: impl.RecWished, From: 1, To: 1, Text: long(n)}
		wantMessage(t, "a wish of bytes: "+count(n), m, 1, n <= impl.RecMaxText)
	}
	m := fullMessage()
	for text, ok := range map[string]bool{"\x00": true, "\xff\xfe": true, strings.Repeat("é", 80): true, strings.Repeat("é", 80) + "x": false} {
		m.Text = text
		wantMessage(t, "any bytes", m, 3, ok)
	}
	// In a message a text may stand without a ballot: it is in no slot.
	m = impl.RecMessage{Kind: impl.RecAccept, From: 1, To: 2, Text: "a"}
	wantMessage(t, "a text and Ballot 0", m, 2, true)
}

// The slots of a message are on no disk: their ballots are bounded by no promise.
func TestSlotsOfMessages(t *testing.T) {
	for what, slots := range goodSlots() {
		for kind := impl.RecPrepare; kind <= impl.RecRefuse; kind++ {
			wantMessage(t, what, impl.RecMessage{Kind: kind, From: 1, To: 2, Slots: slots}, 2, true)
		}
	}
	for what, slots := range wrongSlots() {
		for kind := impl.RecPrepare; kind <= impl.RecRefuse; kind++ {
			wantMessage(t, what, impl.RecMessage{Kind: kind, From: 1, To: 2, Ballot: impl.RecMaxBallot, Slots: slots}, 2, false)
		}
	}
}

func diceMessage(d *dice, from, of int) impl.RecMessage {
	return impl.RecMessage{Kind: 1 + d.below(9), From: from, To: 1 + d.below(of),
		Ballot: oneOf(d, 0, 1, d.below(50), impl.RecMaxBallot), Index: oneOf(d, 0, 1, d.below(impl.RecMaxSlots+1), impl.RecMaxSlots),
		Known: oneOf(d, 0, 1, d.below(impl.RecMaxSlots+1), impl.RecMaxSlots), Text: oneOf(d, "", "a", long(d.below(impl.RecMaxText+1)), long(impl.RecMaxText)),
		Slots: diceSlots(d, oneOf(d, 0, d.below(4), d.below(9)), oneOf(d, 3, impl.RecMaxBallot))}
}

// turnMessage turns one thing of a message.
func turnMessage(d *dice, m *impl.RecMessage) {
	switch d.below(8) {
	case 0:
		m.Text = oneOf(d, "", "x", long(impl.RecMaxText), long(impl.RecMaxText+1))
	case 1:
		m.Slots = turnSlots(d, m.Slots)
	default:
		n := oneOf(d, &m.Kind, &m.From, &m.To, &m.Ballot, &m.Index, &m.Known)
		*n = oneOf(d, *n-1, *n+1, *n+2, 0, -1, 1, 9, 10, impl.RecMaxSlots, impl.RecMaxSlots+1, impl.RecMaxBallot, impl.RecMaxBallot+1)
	}
}

func TestDrawnMessages(t *testing.T) {
	d := &dice{state: 2201}
	seen := map[bool]int{}
	for range 8000 {
		of := 1 + d.below(5)
		m := diceMessage(d, 1+d.below(of), of)
		wantMessage(t, "drawn", m, of, true)
		for range 1 + d.below(2) {
			turnMessage(d, &m)
		}
		for _, others := range []int{of, of - 1, of + 1} {
			want := messageByHand(m, others)
			seen[want]++
			wantMessage(t, "turned", m, others, want)
		}
	}
	if seen[true] < 1000 || seen[false] < 1000 {
		t.Errorf("the dice showed too little: %v", seen)
	}
}
