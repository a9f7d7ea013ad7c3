package tests

import (
	"slices"
	"testing"

	"loop.example/wharfhall/impl"
)

// meeting is three that are Up and have nothing to note; the third message is to the second.
func meeting() impl.RecWorld {
	w := impl.RecNewWorld(3)
	w.Recorders[0].Wishes = []string{"w"}
	w.Flight = []impl.RecMessage{
		{Kind: impl.RecPrepare, From: 2, To: 1, Ballot: 2},
		{Kind: impl.RecWished, From: 1, To: 3, Text: "x"},
		{Kind: impl.RecAccept, From: 1, To: 2, Ballot: 4, Index: 2, Text: "y"},
	}
	return w
}

// Of another Kind nothing happens, wherever, nor of a message or a recorder that is not there.
func TestRecEventsThatAreNone(t *testing.T) {
	worlds := map[string]impl.RecWorld{"a crowd": recCrowd(), "a meeting": meeting(), "one": impl.RecNewWorld(1), "five": impl.RecNewWorld(5), "unnoted": unnoted()}
	for what, w := range worlds {
		for _, kind := range []int{0, impl.RecEvWish + 1, -1, 9, 100, 1 << 62, -1 << 62} {
			for _, a := range []int{-1, 0, 1, 2, 3} {
				wantRecDo(t, what, w, impl.RecEvent{Kind: kind, A: a, Text: "asked"}, w)
			}
		}
		for _, kind := range []int{impl.RecEvBring, impl.RecEvDouble, impl.RecEvLose} {
			for _, a := range []int{-1 << 62, -1, len(w.Flight), len(w.Flight) + 1, 1 << 62} {
				wantRecDo(t, what, w, recEvent(kind, a), w)
			}
		}
		for _, kind := range []int{impl.RecEvFall, impl.RecEvRise, impl.RecEvWish} {
			for _, a := range []int{-1 << 62, -1, len(w.Recorders), len(w.Recorders) + 1, 1 << 62} {
				wantRecDo(t, what, w, impl.RecEvent{Kind: kind, A: a, Text: "asked"}, w)
			}
		}
	}
}

func TestMessagesAreBrought(t *testing.T) {
	for at := range meeting().Flight {
		w := meeting()
		m := w.Flight[at]
		want := turnedRecWorld(w, func(w *impl.RecWorld) {
			w.Flight = slices.Delete(w.Flight, at, at+1)
			w.Recorders[m.To-1] = takeByHand(w.Recorders[m.To-1], m)
		})
		got := wantRecDo(t, "brought", w, impl.RecEvent{Kind: impl.RecEvBring, A: at, Text: "not looked at"}, want)
		if sameRecorder(got.Recorders[m.To-1], w.Recorders[m.To-1]) || len(got.Flight) != 2 {
			t.Errorf("%s changed nothing: %s", messageTold(m), recWorldTold(got))
		}
	}
	w := recDone(t, "the last", meeting(), recEvent(impl.RecEvBring, 2))
	if r := w.Recorders[1]; len(r.Held) != 1 || r.Held[0].Kind != impl.RecAccepted || !slices.Equal(r.Disk.Slots, slotRow("0: 4:y")) || len(r.Safe.Slots) != 0 {
		t.Errorf("what was brought is %s", recorderTold(r))
	}
	// What it holds is not under way before it ticks.
	if len(w.Flight) != 2 || w.Flight[1].Kind != impl.RecWished {
		t.Error(sentTold(w.Flight))
	}
}

// Who is not Up takes nothing, and what was brought to it is gone; neither does who is to take a message that is its own beat.
func TestMessagesThatAreBroughtInVain(t *testing.T) {
	for at := range meeting().Flight {
		w := meeting()
		to := w.Flight[at].To - 1
		w.Recorders[to] = fallByHand(w.Recorders[to])
		want := turnedRecWorld(w, func(w *impl.RecWorld) { w.Flight = slices.Delete(w.Flight, at, at+1) })
		wantRecDo(t, "to one that is not Up", w, recEvent(impl.RecEvBring, at), want)
	}
	w := impl.RecNewWorld(1)
	w.Flight = []impl.RecMessage{{Kind: impl.RecBeat, From: 1, To: 1, Ballot: 3, Known: 9}}
	wantRecDo(t, "its own", w, recEvent(impl.RecEvBring, 0), impl.RecNewWorld(1))
}

func TestMessagesAreDoubledAndLost(t *testing.T) {
	for at := range meeting().Flight {
		w := meeting()
		doubled := turnedRecWorld(w, func(w *impl.RecWorld) { w.Flight = append(w.Flight, w.Flight[at]) })
		wantRecDo(t, "doubled", w, impl.RecEvent{Kind: impl.RecEvDouble, A: at, Text: "not looked at"}, doubled)
		lost := turnedRecWorld(w, func(w *impl.RecWorld) { w.Flight = slices.Delete(w.Flight, at, at+1) })
		wantRecDo(t, "lost", w, impl.RecEvent{Kind: impl.RecEvLose, A: at, Text: "not looked at"}, lost)
		wantRecDo(t, "doubled and lost", doubled, recEvent(impl.RecEvLose, 3), w)
	}
	for n, room := range map[int]int{1: 1, 2: 1, impl.RecMaxFlight - 2: 1, impl.RecMaxFlight - 1: 1, impl.RecMaxFlight: 0} {
		for _, at := range []int{0, n / 2, n - 1} {
			w := impl.RecNewWorld(2)
			w.Flight = plainFlight(n)
			w.Flight[at] = impl.RecMessage{Kind: impl.RecAccept, From: 2, To: 1, Ballot: 5, Index: 1, Text: "a"}
			got := recDone(t, "doubled", w, recEvent(impl.RecEvDouble, at))
			if len(got.Flight) != n+room || room == 1 && !sameMessage(got.Flight[n], w.Flight[at]) || !sameSent(got.Flight[:n], w.Flight) {
				t.Errorf("%d messages, the one at %d twice: %s", n, at, sentTold(got.Flight))
			}
			recDone(t, "lost", w, recEvent(impl.RecEvLose, at))
			recDone(t, "brought", w, recEvent(impl.RecEvBring, at))
		}
	}
}

func TestRecordersOfAWorldFallAndRise(t *testing.T) {
	for at := range 3 {
		w := recCrowd()
		fallen := turnedRecWorld(w, func(w *impl.RecWorld) { w.Recorders[at] = fallByHand(w.Recorders[at]) })
		wantRecDo(t, "a fall", w, impl.RecEvent{Kind: impl.RecEvFall, A: at, Text: "not looked at"}, fallen)
		wantRecDo(t, "a fall of one that fell", fallen, recEvent(impl.RecEvFall, at), fallen)
		risen := turnedRecWorld(fallen, func(w *impl.RecWorld) { w.Recorders[at].Up = true })
		wantRecDo(t, "a rise", fallen, impl.RecEvent{Kind: impl.RecEvRise, A: at, Text: "not looked at"}, risen)
		wantRecDo(t, "a rise of one that is Up", risen, recEvent(impl.RecEvRise, at), risen)
		up := turnedRecWorld(w, func(w *impl.RecWorld) { w.Recorders[at].Up = true })
		wantRecDo(t, "a rise of one as it is", w, recEvent(impl.RecEvRise, at), up)
	}
}

func TestWishesOfAWorld(t *testing.T) {
	for at := range 3 {
		for _, text := range []string{"new", "a", "c", "", long(impl.RecMaxText), long(impl.RecMaxText + 1)} {
			w := recCrowd()
			want := turnedRecWorld(w, func(w *impl.RecWorld) { w.Recorders[at] = recWishByHand(w.Recorders[at], text) })
			got := wantRecDo(t, "a wish", w, recWishEvent(at, text), want)
			if more := len(got.Recorders[at].Wishes) - len(w.Recorders[at].Wishes); more != 0 && (more != 1 || at == 2 || text != "new" && len(text) != impl.RecMaxText) {
				t.Errorf("a wish for %q at %d: %s", text, at, recWorldTold(got))
			}
		}
	}
	w := recDone(t, "a wish", impl.RecNewWorld(3), recWishEvent(2, "x"))
	if !slices.Equal(w.Recorders[2].Wishes, []string{"x"}) || len(w.Recorders[0].Wishes)+len(w.Recorders[1].Wishes)+len(w.Flight) != 0 {
		t.Error(recWorldTold(w))
	}
}

// holders are recorders who each hold so many messages to the next one, which are told apart by their Texts.
func holders(counts ...int) impl.RecWorld {
	w := impl.RecNewWorld(len(counts))
	for i, n := range counts {
		for k := range n {
			m := impl.RecMessage{Kind: impl.RecWished, From: i + 1, To: 1 + (i+1)%len(counts), Text: count(i) + "-" + count(k)}
			w.Recorders[i].Held = append(w.Recorders[i].Held, m)
		}
	}
	return w
}

// All that is sent is behind the flight by the order of who sends, as far as there is room.
func TestTicksOfAWorld(t *testing.T) {
	for _, counts := range [][]int{{0}, {3}, {1, 1}, {0, 4, 0, 2, 9}, {400, 400}, {150, 150, 150, 150}, {150, 150, 150, 150, 1}, {400, 200, 1}, {400, 199, 1, 1}, {400, 400, 400, 400, 400}} {
		for _, before := range []int{0, 1, 596, 597, 598, 599, 600} {
			w := holders(counts...)
			w.Flight = plainFlight(before)
			var sent []impl.RecMessage
			want := turnedRecWorld(w, func(w *impl.RecWorld) {
				for i := range w.Recorders {
					sent = append(sent, w.Recorders[i].Held...)
					w.Recorders[i].Held, w.Recorders[i].Heard = nil, 1
				}
				all := append(w.Flight, sent...)
				w.Flight = all[:min(len(all), impl.RecMaxFlight)]
			})
			wantRecDo(t, "a tick", w, impl.RecEvent{Kind: impl.RecEvTick, A: -7, Text: "not looked at"}, want)
		}
	}
}

func TestTicksOfAWorldWhereSomeAreNotUp(t *testing.T) {
	w := holders(3, 3, 3)
	w.Recorders[1] = impl.Recorder{Number: 2, Of: 3, Safe: disk(5, 0, "2:a"), Disk: disk(5, 1, "3:b 0:")}
	got := recDone(t, "a tick", w, recTickEvent())
	if len(got.Flight) != 6 || got.Flight[2].From != 1 || got.Flight[3].From != 3 || !sameRecorder(got.Recorders[1], w.Recorders[1]) {
		t.Error(recWorldTold(got))
	}
	down := impl.RecWorld{Recorders: []impl.Recorder{{Number: 1, Of: 2}, {Number: 2, Of: 2}}, Flight: plainFlight(4)}
	wantRecDo(t, "nobody is Up", down, recTickEvent(), down)
}

// One that leads sends to all at once: none of the others has ticked before it takes anything.
func TestATickIsTakenByNobody(t *testing.T) {
	w := impl.RecNewWorld(3)
	w.Recorders[1] = turnedRecorder(leadingRecorder(), func(r *impl.Recorder) { r.Held = nil })
	got := recDone(t, "a tick", w, recTickEvent())
	for _, at := range []int{0, 2} {
		if !sameRecorder(got.Recorders[at], turnedRecorder(w.Recorders[at], heardTimes(1))) {
			t.Errorf("a tick changed %s", recorderTold(got.Recorders[at]))
		}
	}
	if len(got.Flight) < 4 || got.Flight[0].Kind != impl.RecBeat || got.Flight[0].To != 1 || got.Flight[1].To != 3 || got.Flight[2].Kind != impl.RecAccept {
		t.Error(sentTold(got.Flight))
	}
}
