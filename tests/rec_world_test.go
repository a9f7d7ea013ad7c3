package tests

import (
	"testing"

	"loop.example/wharfhall/impl"
)

func TestNewRecWorlds(t *testing.T) {
	for n := 1; n <= impl.RecMaxRecorders; n++ {
		w := impl.RecNewWorld(n)
		wantRecWorld(t, "new", w, true)
		wantAgree(t, "new", w, true)
		if len(w.Recorders) != n || len(w.Flight) != 0 || len(w.Fixed) != 0 {
			t.Errorf("of %d: %s", n, recWorldTold(w))
		}
		for i, r := range w.Recorders {
			if !sameRecorder(r, impl.Recorder{Number: i + 1, Of: n, Up: true}) {
				t.Errorf("of %d: %s", n, recorderTold(r))
			}
		}
	}
	for _, n := range []int{-1 << 62, -5, -1, 0, impl.RecMaxRecorders + 1, 7, 1 << 62} {
		w := impl.RecNewWorld(n)
		if !sameRecWorld(w, impl.RecWorld{}) {
			t.Errorf("of %d: %s", n, recWorldTold(w))
		}
		wantRecWorld(t, "nothing", w, false)
	}
}

// recCrowd are the three of whom each is number 2 of 3 elsewhere, each with what is its own.
func recCrowd() impl.RecWorld {
	return impl.RecWorld{
		Recorders: []impl.Recorder{asOneOf(leadingRecorder(), 1, 3), tryingRecorder(), asOneOf(fallenRecorder(), 3, 3)},
		Flight: []impl.RecMessage{
			{Kind: impl.RecPromised, From: 1, To: 2, Ballot: 8, Slots: slotRow("3:a 0: 9:c")},
			{Kind: impl.RecBeat, From: 1, To: 2, Ballot: 8, Known: 2},
			{Kind: impl.RecWished, From: 3, To: 3, Text: "w"},
		},
		Fixed: fixes("1:a 2:b 9:"),
	}
}

// asOneOf makes a recorder another one of others, with nothing of those who are not there.
func asOneOf(r impl.Recorder, number, of int) impl.Recorder {
	r = copyRecorder(r)
	within := func(numbers []int) []int {
		var out []int
		for _, n := range numbers {
			if n <= of {
				out = append(out, n)
			}
		}
		return out
	}
	r.Number, r.Of, r.Yes = number, of, within(r.Yes)
	for i := range r.Held {
		r.Held[i].From, r.Held[i].To = number, min(r.Held[i].To, of)
	}
	for i := range r.Acks {
		r.Acks[i].From = within(r.Acks[i].From)
	}
	return r
}

func TestRecWorldsThatAreOk(t *testing.T) {
	wantRecWorld(t, "a crowd", recCrowd(), true)
	for what, turn := range map[string]func(w *impl.RecWorld){
		"nothing in flight":   func(w *impl.RecWorld) { w.Flight = nil },
		"an empty flight":     func(w *impl.RecWorld) { w.Flight = []impl.RecMessage{} },
		"nothing fixed":       func(w *impl.RecWorld) { w.Fixed = nil },
		"the first place":     func(w *impl.RecWorld) { w.Fixed = fixes("1:x") },
		"the last place":      func(w *impl.RecWorld) { w.Fixed = fixes("120:x") },
		"both":                func(w *impl.RecWorld) { w.Fixed = fixes("1: 120:") },
		"all places":          func(w *impl.RecWorld) { w.Fixed = allFixed(impl.RecMaxSlots) },
		"one text twice":      func(w *impl.RecWorld) { w.Fixed = fixes("4:x 5:x") },
		"the longest text":    func(w *impl.RecWorld) { w.Fixed = []impl.RecFix{{Index: 7, Text: long(impl.RecMaxText)}} },
		"any bytes":           func(w *impl.RecWorld) { w.Fixed = []impl.RecFix{{Index: 7, Text: "\x00\xff\n"}} },
		"what nobody knows":   func(w *impl.RecWorld) { w.Fixed = fixes("1:other 77:unknown") },
		"a full flight":       func(w *impl.RecWorld) { w.Flight = plainFlight(impl.RecMaxFlight) },
		"a message of a kind": func(w *impl.RecWorld) { w.Flight = []impl.RecMessage{{Kind: 9, From: 3, To: 1}} },
		"nobody Up": func(w *impl.RecWorld) {
			w.Recorders = []impl.Recorder{{Number: 1, Of: 3}, {Number: 2, Of: 3}, {Number: 3, Of: 3}}
		},
		"all lead": func(w *impl.RecWorld) {
			for i := range w.Recorders {
				w.Recorders[i] = asOneOf(leadingRecorder(), i+1, 3)
			}
		},
	} {
		wantRecWorld(t, what, turnedRecWorld(recCrowd(), turn), true)
	}
}

// allFixed are n places, each with its own text.
func allFixed(n int) []impl.RecFix {
	var out []impl.RecFix
	for i := range n {
		out = append(out, impl.RecFix{Index: i + 1, Text: "t" + count(i)})
	}
	return out
}

func TestRecWorldsOfTooManyOrTooFew(t *testing.T) {
	for n := range impl.RecMaxRecorders + 3 {
		var w impl.RecWorld
		for i := range n {
			w.Recorders = append(w.Recorders, impl.Recorder{Number: i + 1, Of: n, Up: true})
		}
		wantRecWorld(t, count(n), w, n >= 1 && n <= impl.RecMaxRecorders)
	}
	wantRecWorld(t, "fixed and in flight, and nobody there", impl.RecWorld{Flight: recCrowd().Flight, Fixed: recCrowd().Fixed}, false)
	wantRecWorld(t, "by far too many", impl.RecWorld{Recorders: make([]impl.Recorder, 1000)}, false)
}

func TestRecWorldsOfRecordersThatAreNotValid(t *testing.T) {
	for at := range impl.RecMaxRecorders {
		for what, turn := range wrongRecorders() {
			w := impl.RecNewWorld(impl.RecMaxRecorders)
			w.Recorders[at] = asOneOf(quietRecorder(), at+1, impl.RecMaxRecorders)
			wantRecWorld(t, what+", without it", w, true)
			turn(&w.Recorders[at])
			if recorderByHand(w.Recorders[at]) {
				continue // One that is number 4 of 5 may be that.
			}
			if impl.RecWorldOk(w) || recWorldByHand(w) {
				t.Errorf("%s at %d: %s is ok", what, at, recWorldTold(w))
			}
			if got := impl.RecDo(w, recTickEvent()); !sameRecWorld(got, impl.RecWorld{}) {
				t.Errorf("%s at %d: %s", what, at, recWorldTold(got))
			}
		}
	}
	wantRecWorld(t, "one that is not valid", turnedRecWorld(recCrowd(), recorderAt(1, heardTimes(-1))), false)
}

// Each is valid on its own, and yet they are no group.
func TestRecWorldsOfTheWrongNumbers(t *testing.T) {
	numbered := func(of int, numbers ...int) impl.RecWorld {
		var w impl.RecWorld
		for _, n := range numbers {
			w.Recorders = append(w.Recorders, impl.RecNew(n, of))
		}
		return w
	}
	for what, w := range map[string]impl.RecWorld{
		"from 2 on":             numbered(3, 2, 3),
		"one twice":             numbered(3, 1, 1, 3),
		"the last one twice":    numbered(3, 1, 2, 2),
		"turned around":         numbered(2, 2, 1),
		"the last ones turned":  numbered(3, 1, 3, 2),
		"one missing":           numbered(3, 1, 3),
		"Of one more":           numbered(4, 1, 2, 3),
		"Of as many as may be":  numbered(5, 1, 2, 3),
		"one of five alone":     numbered(5, 1),
		"two firsts":            numbered(1, 1, 1),
		"one more than Of":      numbered(2, 1, 2, 2),
		"an Of of one's own":    {Recorders: []impl.Recorder{impl.RecNew(1, 2), impl.RecNew(2, 3)}},
		"the first one's Of":    {Recorders: []impl.Recorder{impl.RecNew(1, 1), impl.RecNew(2, 2)}},
		"the last one's Of":     {Recorders: []impl.Recorder{impl.RecNew(1, 2), impl.RecNew(2, 5)}},
		"nobody at the end":     {Recorders: []impl.Recorder{impl.RecNew(1, 2), {}}},
		"nobody at the start":   {Recorders: []impl.Recorder{{}, impl.RecNew(2, 2)}},
		"nobody and nobody":     {Recorders: make([]impl.Recorder, 2)},
		"five, the last is six": numbered(5, 1, 2, 3, 4, 6),
	} {
		wantRecWorld(t, what, w, false)
	}
}

func TestRecWorldsWithWrongFlights(t *testing.T) {
	for n, ok := range map[int]bool{0: true, 1: true, impl.RecMaxFlight - 1: true, impl.RecMaxFlight: true, impl.RecMaxFlight + 1: false, 5000: false} {
		wantRecWorld(t, count(n)+" messages", impl.RecWorld{Recorders: impl.RecNewWorld(2).Recorders, Flight: plainFlight(n)}, ok)
	}
	for what, turn := range map[string]func(m *impl.RecMessage){
		"of no Kind":          func(m *impl.RecMessage) { m.Kind = 0 },
		"of the next Kind":    func(m *impl.RecMessage) { m.Kind = 10 },
		"from nobody":         func(m *impl.RecMessage) { m.From = 0 },
		"to nobody":           func(m *impl.RecMessage) { m.To = 0 },
		"from one too many":   func(m *impl.RecMessage) { m.From = 4 },
		"to one too many":     func(m *impl.RecMessage) { m.To = 4 },
		"a ballot below 0":    func(m *impl.RecMessage) { m.Ballot = -1 },
		"a ballot above all":  func(m *impl.RecMessage) { m.Ballot = impl.RecMaxBallot + 1 },
		"a place too many":    func(m *impl.RecMessage) { m.Index = impl.RecMaxSlots + 1 },
		"one known too many":  func(m *impl.RecMessage) { m.Known = impl.RecMaxSlots + 1 },
		"a text too long":     func(m *impl.RecMessage) { m.Text = long(impl.RecMaxText + 1) },
		"slots that are none": func(m *impl.RecMessage) { m.Slots = []impl.RecSlot{{Text: "x"}} },
	} {
		for at := range recCrowd().Flight {
			wantRecWorld(t, what+" at "+count(at), turnedRecWorld(recCrowd(), func(w *impl.RecWorld) { turn(&w.Flight[at]) }), false)
		}
		last := turnedRecWorld(recCrowd(), func(w *impl.RecWorld) { w.Flight = plainFlight(impl.RecMaxFlight) })
		turn(&last.Flight[impl.RecMaxFlight-1])
		if impl.RecWorldOk(last) {
			t.Errorf("%s at the last place of a full flight is ok", what)
		}
	}
}

func TestRecWorldsWithWrongFixed(t *testing.T) {
	for what, fixed := range map[string][]impl.RecFix{
		"a place 0":              fixes("0:x"),
		"a place 0 ahead":        fixes("0:x 1:y"),
		"a place below 0":        fixes("-1:x"),
		"one place too many":     fixes("121:x"),
		"too many, behind all":   append(allFixed(impl.RecMaxSlots), impl.RecFix{Index: impl.RecMaxSlots + 1}),
		"one place twice":        fixes("1:x 1:x"),
		"one place, two texts":   fixes("3:x 3:y"),
		"the last place twice":   append(allFixed(impl.RecMaxSlots), impl.RecFix{Index: impl.RecMaxSlots}),
		"descending":             fixes("2:x 1:y"),
		"descending at the end":  fixes("1:x 5:y 4:z"),
		"a text too long":        {{Index: 1, Text: long(impl.RecMaxText + 1)}},
		"a text too long behind": {{Index: 1}, {Index: 2, Text: long(impl.RecMaxText + 1)}},
		"by far too many":        make([]impl.RecFix, 1000),
	} {
		wantRecWorld(t, what, turnedRecWorld(recCrowd(), func(w *impl.RecWorld) { w.Fixed = fixed }), false)
	}
}
